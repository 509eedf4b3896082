/-
  slices.Concat of any two rows of points, however long, as long as memory may bear them: a new row that holds the one and, behind it, the other.
-/
import Derived.Test.YtihcioghbidblaaPts
import Derived.ArgAppend
import Derived.Lib.AppendZeros
import Derived.Deep.MidRow
namespace Go.Proofs.Ytihcioghbidblaa
open Go.RowKit
set_option linter.unusedVariables false

/-- the j-th cell of points that lie one behind another -/
def cellP (l : Nat → Pt) (j : Nat) : Value := if j % 3 = 0 then .int .i32 (l (j / 3)).w else if j % 3 = 1 then .int .i64 (l (j / 3)).f else .int .i32 (l (j / 3)).d
def valP (l : Nat → Pt) (n : Nat) : List Value := (List.range (n * 3)).map (cellP l)
theorem valP_length (l : Nat → Pt) (n : Nat) : (valP l n).length = n * 3 := by simp [valP]
theorem valP_get (l : Nat → Pt) {n j : Nat} (h : j < n * 3) : (valP l n)[j]? = some (cellP l j) := by
  unfold valP
  rw [List.getElem?_map, List.getElem?_range h]
  rfl
theorem valP_at {l : Nat → Pt} {n j : Nat} {u : Value} (h : (valP l n)[j]? = some u) : j < n * 3 ∧ u = cellP l j := by
  have q := (List.getElem?_eq_some_iff.1 h).1
  rw [valP_length] at q
  rw [valP_get l q] at h
  exact ⟨q, by simpa using h.symm⟩
theorem cellP_one (l : Nat → Pt) (t : Nat) : (cellP l t).oneCell' = true := by
  unfold cellP
  repeat' split
  all_goals rfl
theorem valP_one {l : Nat → Pt} {n : Nat} {u : Value} (h : u ∈ valP l n) : u.oneCell' = true := by
  unfold valP at h
  obtain ⟨t, _, rfl⟩ := List.mem_map.1 h
  exact cellP_one l t
theorem cellP_0 (l : Nat → Pt) (q : Nat) : cellP l (q * 3) = .int .i32 (l q).w := by
  unfold cellP
  rw [show q * 3 % 3 = 0 by omega, show q * 3 / 3 = q by omega]; rfl
theorem cellP_1 (l : Nat → Pt) (q : Nat) : cellP l (q * 3 + 1) = .int .i64 (l q).f := by
  unfold cellP
  rw [show (q * 3 + 1) % 3 = 1 by omega, show (q * 3 + 1) / 3 = q by omega]; rfl
theorem cellP_2 (l : Nat → Pt) (q : Nat) : cellP l (q * 3 + 2) = .int .i32 (l q).d := by
  unfold cellP
  rw [show (q * 3 + 2) % 3 = 2 by omega, show (q * 3 + 2) / 3 = q by omega]; rfl
/-- a cell of a row that lies somewhere -/
theorem pat_cell {w : World} {b o n : Nat} {l : Nat → Pt} (h : ∀ j, j < n → PAt w b (o + j * 3) (l j)) {j : Nat} (hj : j < n * 3) : w.cell? ⟨b, o + j, none⟩ = some (cellP l j) := by
  have e := h (j / 3) (by omega)
  have d : j = j / 3 * 3 + j % 3 := by omega
  generalize hq : j / 3 = q at *
  rcases (show j % 3 = 0 ∨ j % 3 = 1 ∨ j % 3 = 2 by omega) with r | r | r
  · rw [d, r, Nat.add_zero, cellP_0]; exact e.hw
  · rw [d, r, cellP_1, ← Nat.add_assoc]; exact e.hf
  · rw [d, r, cellP_2, ← Nat.add_assoc]; exact e.hd
/-- f as far as k, then s -/
def catP (f : Nat → Pt) (k : Nat) (s : Nat → Pt) : Nat → Pt := fun t => if t < k then f t else s (t - k)
theorem cellP_cat (f s : Nat → Pt) (k t : Nat) : cellP (catP f k s) t = if t < k * 3 then cellP f t else cellP s (t - k * 3) := by
  by_cases h : t < k * 3
  · rw [if_pos h]
    unfold cellP catP
    rw [if_pos (show t / 3 < k by omega)]
  · rw [if_neg h]
    unfold cellP catP
    rw [if_neg (show ¬ t / 3 < k by omega), show (t - k * 3) % 3 = t % 3 by omega, show (t - k * 3) / 3 = t / 3 - k by omega]
theorem belowP_cells {N : Nat} {w0 : World} {b : Nat} (hN : N ≤ b) : ∀ (vs : List Value) (o : Nat) (w : World), Below N w0 w → Below N w0 (w.setCells b o vs)
  | [], _, _, h => h
  | v :: r, o, w, h => belowP_cells hN r (o + 1) _ (h.setCell (p := ⟨b, o, none⟩) hN v)
theorem sizeP_cells (b : Nat) : ∀ (vs : List Value) (o : Nat) (w : World), (w.setCells b o vs).heap.size = w.heap.size
  | [], _, _ => rfl
  | v :: r, o, w => by rw [World.setCells, sizeP_cells b r]; simp [World.setCell]
theorem cellP_out (b : Nat) : ∀ (vs : List Value) (o : Nat) (w : World) (t : Nat), t < o ∨ o + vs.length ≤ t → (w.setCells b o vs).cell? ⟨b, t, none⟩ = w.cell? ⟨b, t, none⟩
  | [], _, _, _, _ => rfl
  | v :: r, o, w, t, h => by
    rw [World.setCells, cellP_out b r (o + 1) _ t (by simp at h; omega)]
    exact World.cell?_setCell_other _ _ _ _ (by simp at h; simp <;> omega)

/-- since w0 nothing has turned below block N; block b, which is not below N, has room for G points; the first k are f's -/
structure GrP (N : Nat) (w0 : World) (b G k : Nat) (f : Nat → Pt) (w : World) : Prop where
  low : N ≤ b
  lt : b < w.heap.size
  any : ∀ t, t < G * 3 → (w.cell? ⟨b, t, none⟩).isSome = true
  cell : ∀ t, t < k * 3 → w.cell? ⟨b, t, none⟩ = some (cellP f t)
  froz : ∀ t, t < G * 3 → w.frozen? ⟨b, t, none⟩ = false
  bel : Below N w0 w
theorem GrP.app {N : Nat} {w0 : World} {b G k n : Nat} {f s : Nat → Pt} {w : World} (h : GrP N w0 b G k f w) (hn : k + n ≤ G) : GrP N w0 b G (k + n) (catP f k s) (w.setCells b (0 + k * 3) (valP s n)) := by
  have e0 : 0 + k * 3 = k * 3 := by omega
  rw [e0]
  have th : w.there b (k * 3) (valP s n).length := fun j hj => by
    rw [valP_length] at hj
    exact ⟨h.any (k * 3 + j) (by omega), h.froz (k * 3 + j) (by omega)⟩
  have inn : ∀ j, j < n * 3 → (w.setCells b (k * 3) (valP s n)).cell? ⟨b, k * 3 + j, none⟩ = some (cellP s j) := fun j hj => World.rangeAt_setCells_same w b (k * 3) (valP s n) th j _ (valP_get s hj)
  refine ⟨h.low, by rw [sizeP_cells]; exact h.lt, fun t ht => ?_, fun t ht => ?_, fun t ht => by rw [World.frozen?_setCells]; exact h.froz t ht, belowP_cells h.low _ _ _ h.bel⟩
  · have h1 := h.any t ht
    by_cases q : t < k * 3
    · rw [cellP_out b _ _ _ _ (Or.inl q)]; exact h1
    · by_cases q2 : t < k * 3 + n * 3
      · have := inn (t - k * 3) (by omega)
        rw [show k * 3 + (t - k * 3) = t by omega] at this
        rw [this]; rfl
      · rw [cellP_out b _ _ _ _ (Or.inr (by rw [valP_length]; omega))]; exact h1
  · rw [cellP_cat]
    by_cases q : t < k * 3
    · rw [if_pos q, cellP_out b _ _ _ _ (Or.inl q)]; exact h.cell t q
    · have := inn (t - k * 3) (by omega)
      rw [show k * 3 + (t - k * 3) = t by omega] at this
      rw [if_neg q]; exact this
theorem GrP.row {N : Nat} {w0 : World} {b G k : Nat} {f : Nat → Pt} {w : World} (h : GrP N w0 b G k f w) : RowP w (some ⟨b, 0, none⟩) k f := fun _ => by
  refine ⟨b, 0, rfl, h.lt, fun j hj => ?_⟩
  have c0 := h.cell (j * 3) (by omega)
  have c1 := h.cell (j * 3 + 1) (by omega)
  have c2 := h.cell (j * 3 + 2) (by omega)
  rw [cellP_0] at c0
  rw [cellP_1] at c1
  rw [cellP_2] at c2
  rw [Nat.zero_add]
  exact ⟨c0, c1, c2⟩

theorem infoP : ∃ i, Try.prog.info? 40 = some i ∧ i.zero = some (.agg #[.int .i32 0, .int .i64 0, .int .i32 0]) ∧ i.size = 3 ∧ i.bytes = 24 := by
  have h : (Try.prog.info? 40).isSome = true := by kernel_rfl
  obtain ⟨i, hi⟩ := Option.isSome_iff_exists.1 h
  have e1 : (Try.prog.info? 40).bind (·.zero) = some (.agg #[.int .i32 0, .int .i64 0, .int .i32 0]) := by kernel_rfl
  have e2 : (Try.prog.info? 40).map (·.size) = some 3 := by kernel_rfl
  have e3 : (Try.prog.info? 40).map (·.bytes) = some 24 := by kernel_rfl
  rw [hi] at e1 e2 e3
  exact ⟨i, hi, e1, by simpa using e2, by simpa using e3⟩

/-- append where there is room: of any row that lies elsewhere -/
theorem run_appP {N : Nat} {w0 : World} {b G k : Nat} {f : Nat → Pt} {W : World} (h : GrP N w0 b G k f W) (a : Option Addr) (n c : Nat) (s : Nat → Pt) (hr : RowP W a n s) (hn : k + n ≤ G) (ty : TypeId) :
    (Builtin.append_ #[32, 32] ty #[.slice (some ⟨b, 0, none⟩) k G, .slice a n c]).run Try.prog W = .ok (.slice (some ⟨b, 0, none⟩) (k + n) G) (W.setCells b (0 + k * 3) (valP s n)) := by
  obtain ⟨i, i1, i2, i3, i4⟩ := infoP
  have go : ∀ ad : Addr, (∀ j u, (valP s n)[j]? = some u → W.cell? (ad.add j) = some u) → (Builtin.append_ #[32, 32] ty #[.slice (some ⟨b, 0, none⟩) k G, .slice (some ad) n c]).run Try.prog W = .ok (.slice (some ⟨b, 0, none⟩) (k + n) G) (W.setCells b (0 + k * 3) (valP s n)) := fun ad hc => by
    have q := run_append_room_cells (P := Try.prog) W 32 ty 40 i Try.underlying32 i1 b 0 k G ad n c (valP s n) (by rw [valP_length, i3]) hc (fun u hu => valP_one hu) hn
      (fun j hj => by rw [valP_length] at hj; rw [i3, show 0 + k * 3 + j = k * 3 + j by omega]; exact h.any (k * 3 + j) (by omega))
      (fun j hj => by rw [valP_length] at hj; rw [i3, show 0 + k * 3 + j = k * 3 + j by omega]; exact h.froz (k * 3 + j) (by omega))
    rw [i3] at q
    exact q
  rcases Nat.eq_zero_or_pos n with q | q
  · subst q
    cases a with
    | some ad => exact go ad (fun j u hu => absurd (valP_at hu).1 (by omega))
    | none =>
      have e : valP s 0 = [] := rfl
      rw [e]
      simp [Builtin.append_, run_underlying Try.underlying32, sizeOf, typeInfo, i1, Builtin.lenOf, show k ≤ G by omega, run_firstCells_none, World.setCells, storeCells]
  · obtain ⟨bb, off, rfl, h1, h2⟩ := hr q
    exact go ⟨bb, off, none⟩ (fun j u hu => by
      obtain ⟨hj, rfl⟩ := valP_at hu
      rw [Addr.add_lit]
      exact pat_cell h2 hj)

theorem zeroP_size (z : Value) (h : z.cells.size = 3) (n : Nat) : (Builtin.zeroCells z.cells n).size = n * 3 := by
  unfold Builtin.zeroCells
  rw [Array.size_map, Array.size_range, h]

set_option maxHeartbeats 1000000 in
theorem growP_room (n : Nat) (hn : 0 < n) (hm : n * 24 ≤ 281474976710656) (w : World) (f : Nat → Pt) :
    Calls Try.prog 25 #[.slice none 0 0, .int .i64 n] w fun e w' => ∃ g G, e = .returned (.slice (some ⟨g, 0, none⟩) 0 G) ∧ n ≤ G ∧ GrP w.heap.size w g G 0 f w' := by
  obtain ⟨i, i1, i2, i3, i4⟩ := infoP
  have hr := fun ty => Lib.run_append_nil_zeros (P := Try.prog) w 32 3 ty 40 i (.agg #[.int .i32 0, .int .i64 0, .int .i32 0]) .i64 .i64 Try.underlying32 Try.underlying3 i1 i2 n hn (by omega) (by omega) (by rw [i4]; omega)
  have g1 := grownCap_ge w n 0 40
  have g2 := grownCap_le_maxLen w n 0 40 (by unfold maxLen; omega)
  generalize grownCap w n 0 40 = G at hr g1 g2
  have hA : (Builtin.zeroCells (Value.agg #[.int .i32 0, .int .i64 0, .int .i32 0]).cells n ++ Builtin.zeroCells (Value.agg #[.int .i32 0, .int .i64 0, .int .i32 0]).cells (G - n)).size = G * 3 := by
    rw [Array.size_append, zeroP_size _ rfl, zeroP_size _ rfl]; omega
  generalize Builtin.zeroCells (Value.agg #[.int .i32 0, .int .i64 0, .int .i32 0]).cells n ++ Builtin.zeroCells (Value.agg #[.int .i32 0, .int .i64 0, .int .i32 0]).cells (G - n) = A at hr hA
  have HB : Below w.heap.size w (w.drew.alloc (.cells A 40)) := ((Below.refl _ w).drew).alloc (Nat.le_refl _) _
  have HG : Hid (GrP w.heap.size w w.heap.size G 0 f (w.drew.alloc (.cells A 40))) := by
    have hh : (w.drew.alloc (.cells A 40)).heap[w.heap.size]? = some (.cells A 40) := heap_alloc_new w.drew _
    refine ⟨Nat.le_refl _, by simp, fun t ht => ?_, fun t ht => absurd ht (by omega), fun t ht => ?_, HB⟩
    · unfold World.cell?
      rw [hh]
      simp [show t < A.size by omega]
    · unfold World.frozen?
      rw [hh]
      simp
  have z1 : ¬ (n : Int) < 0 := by omega
  have z2 : (0 : Int) < (n : Int) := by omega
  unfold maxLen at g2
  clear hA i1 i2 i3 i4 HB
  go_enter Try.func25, Try.ntmps25
  go_wp2_with (at_builtin; refine Lib.wpList_append_run _ rfl _ _ _ _ rfl _ _ rfl rfl _ _ (hr _) ?_)
  go_ret
  exact ⟨_, G, rfl, g1, HG.out⟩

set_option maxHeartbeats 1000000 in
theorem growP_none (w : World) : Calls Try.prog 25 #[.slice none 0 0, .int .i64 0] w fun e w' => e = .returned (.slice none 0 0) ∧ w' = w := by
  go_enter Try.func25, Try.ntmps25
  go_wp2_with fail
  go_ret
  exact ⟨rfl, rfl⟩

set_option maxHeartbeats 4000000 in
set_option maxRecDepth 100000 in
theorem concatP_two (sb : Nat) (a1 a2 : Option Addr) (n1 n2 c1 c2 : Nat) (f1 f2 : Nat → Pt) (w : World) (hsb : sb < w.heap.size) (s0 : w.cell? ⟨sb, 0, none⟩ = some (.slice a1 n1 c1)) (s1 : w.cell? ⟨sb, 1, none⟩ = some (.slice a2 n2 c2))
    (hn : 0 < n1 + n2) (hm : (n1 + n2) * 24 ≤ 281474976710656) (hr1 : RowP w a1 n1 f1) (hr2 : RowP w a2 n2 f2) :
    Calls Try.prog 14 #[.slice (some ⟨sb, 0, none⟩) 2 2] w fun e w' => ∃ g G, e = .returned (.slice (some ⟨g, 0, none⟩) (n1 + n2) G) ∧ RowP w' (some ⟨g, 0, none⟩) (n1 + n2) (catP f1 n1 f2) ∧ Below w.heap.size w w' := by
  have H1 : Hid (RowP w a1 n1 f1) := hr1
  have H2 : Hid (RowP w a2 n2 f2) := hr2
  clear hr1 hr2
  have z1 : ¬ (n1 : Int) < 0 := by omega
  have z2 : ¬ (n1 : Int) + (n2 : Int) < 0 := by omega
  have hg := growP_room (n1 + n2) hn hm w (fun _ => ⟨0, 0, 0⟩)
  rw [show ((n1 + n2 : Nat) : Int) = (n1 : Int) + (n2 : Int) by omega] at hg
  go_enter Try.func14, Try.ntmps14
  go_wp2_with fail
  refine wp_loop_rounds 3 ?_
  rw [rounds_succ]
  go_wp2_with fail
  rw [rounds_succ]
  go_wp2_with fail
  rw [rounds_succ]
  go_wp2_with fail
  refine hg.mono ?_
  rintro e w1 ⟨g, G, rfl, hG, hgr⟩
  have HG1 : Hid (GrP w.heap.size w g G 0 (fun _ => ⟨0, 0, 0⟩) w1) := hgr
  have HGn : Hid (n1 + n2 ≤ G) := hG
  have t0 := (hgr.bel.cell (p := ⟨sb, 0, none⟩) hsb).trans s0
  have t1 := (hgr.bel.cell (p := ⟨sb, 1, none⟩) hsb).trans s1
  have hr := run_appP HG1.out a1 n1 c1 f1 (H1.out.step HG1.out.bel) (by have := HGn.out; omega)
  have hgr2 : GrP w.heap.size w g G (0 + n1) (catP (fun _ => ⟨0, 0, 0⟩) 0 f1) (w1.setCells g (0 + 0 * 3) (valP f1 n1)) := HG1.out.app (by have := HGn.out; omega)
  rw [show 0 + 0 * 3 = 0 by rfl, Nat.zero_add] at hr hgr2
  obtain ⟨w2, hw2⟩ : ∃ w2, w2 = w1.setCells g 0 (valP f1 n1) := ⟨_, rfl⟩
  rw [← hw2] at hr hgr2
  have HG2 : Hid (GrP w.heap.size w g G n1 (catP (fun _ => ⟨0, 0, 0⟩) 0 f1) w2) := hgr2
  have u1 : w2.cell? ⟨sb, 1, none⟩ = some (.slice a2 n2 c2) := (hgr2.bel.cell (p := ⟨sb, 1, none⟩) hsb).trans s1
  have HE : Hid (n1 + n2 ≤ G) := HGn.out
  have hr3 := run_appP HG2.out a2 n2 c2 f2 (H2.out.step HG2.out.bel) HE.out
  have hgr3 : GrP w.heap.size w g G (n1 + n2) (catP (catP (fun _ => ⟨0, 0, 0⟩) 0 f1) n1 f2) (w2.setCells g (0 + n1 * 3) (valP f2 n2)) := HG2.out.app HE.out
  obtain ⟨w3, hw3⟩ : ∃ w3, w3 = w2.setCells g (0 + n1 * 3) (valP f2 n2) := ⟨_, rfl⟩
  rw [← hw3] at hr3 hgr3
  have e3 : catP (catP (fun _ => ⟨0, 0, 0⟩) 0 f1) n1 f2 = catP f1 n1 f2 := by
    funext t
    unfold catP
    simp
  rw [e3] at hgr3
  have HG3 : Hid (RowP w3 (some ⟨g, 0, none⟩) (n1 + n2) (catP f1 n1 f2) ∧ Below w.heap.size w w3) := ⟨hgr3.row, hgr3.bel⟩
  clear hgr hG hg s0 s1 hgr2 hw2 hgr3 hw3 e3 HGn HG1 HG2 HE
  go_wp2_with fail
  refine wp_loop_rounds 3 ?_
  rw [rounds_succ]
  go_wp2_with (at_builtin; refine Lib.wpList_append_run _ rfl _ _ _ _ rfl _ _ rfl rfl _ _ (hr _) ?_)
  clear hr t0 t1
  rw [rounds_succ]
  go_wp2_with (at_builtin; refine Lib.wpList_append_run _ rfl _ _ _ _ rfl _ _ rfl rfl _ _ (hr3 _) ?_)
  clear hr3 u1
  rw [rounds_succ]
  go_wp2_with fail
  go_ret
  exact ⟨g, G, rfl, HG3.out.1, HG3.out.2⟩

set_option maxHeartbeats 4000000 in
set_option maxRecDepth 100000 in
theorem concatP_zero (sb : Nat) (a1 a2 : Option Addr) (c1 c2 : Nat) (w : World) (s0 : w.cell? ⟨sb, 0, none⟩ = some (.slice a1 0 c1)) (s1 : w.cell? ⟨sb, 1, none⟩ = some (.slice a2 0 c2)) :
    Calls Try.prog 14 #[.slice (some ⟨sb, 0, none⟩) 2 2] w fun e w' => e = .returned (.slice none 0 0) ∧ w' = w := by
  have hr : ∀ (a : Option Addr) (c : Nat) (ty : TypeId) (W : World), (Builtin.append_ #[32, 32] ty #[.slice none 0 0, .slice a 0 c]).run Try.prog W = .ok (.slice none 0 0) W := fun a c ty W => by
    obtain ⟨i, i1, i2, i3, i4⟩ := infoP
    cases a with
    | none => simp [Builtin.append_, run_underlying Try.underlying32, sizeOf, typeInfo, i1, Builtin.lenOf, run_firstCells_none]
    | some ad =>
      have q := run_firstCells_some (P := Try.prog) W i.size 0 ad 0 c [] (by simp) (fun j v h => by simp at h)
      simp [Builtin.append_, run_underlying Try.underlying32, sizeOf, typeInfo, i1, Builtin.lenOf, q]
  go_enter Try.func14, Try.ntmps14
  go_wp2_with fail
  refine wp_loop_rounds 3 ?_
  rw [rounds_succ]
  go_wp2_with fail
  rw [rounds_succ]
  go_wp2_with fail
  rw [rounds_succ]
  go_wp2_with fail
  refine (growP_none w).mono ?_
  rintro e w1 ⟨rfl, rfl⟩
  go_wp2_with fail
  refine wp_loop_rounds 3 ?_
  rw [rounds_succ]
  go_wp2_with (at_builtin; refine Lib.wpList_append_run _ rfl _ _ _ _ rfl _ _ rfl rfl _ _ (hr _ _ _ _) ?_)
  rw [rounds_succ]
  go_wp2_with (at_builtin; refine Lib.wpList_append_run _ rfl _ _ _ _ rfl _ _ rfl rfl _ _ (hr _ _ _ _) ?_)
  rw [rounds_succ]
  go_wp2_with fail
  go_ret
  exact ⟨rfl, rfl⟩

/-- whatever the two are -/
theorem concatP_all (sb : Nat) (a1 a2 : Option Addr) (n1 n2 c1 c2 : Nat) (f1 f2 : Nat → Pt) (w : World) (hsb : sb < w.heap.size) (s0 : w.cell? ⟨sb, 0, none⟩ = some (.slice a1 n1 c1)) (s1 : w.cell? ⟨sb, 1, none⟩ = some (.slice a2 n2 c2))
    (hm : (n1 + n2) * 24 ≤ 281474976710656) (hr1 : RowP w a1 n1 f1) (hr2 : RowP w a2 n2 f2) :
    Calls Try.prog 14 #[.slice (some ⟨sb, 0, none⟩) 2 2] w fun e w' => ∃ a c, e = .returned (.slice a (n1 + n2) c) ∧ RowP w' a (n1 + n2) (catP f1 n1 f2) ∧ Below w.heap.size w w' := by
  rcases Nat.eq_zero_or_pos (n1 + n2) with q | q
  · obtain ⟨rfl, rfl⟩ : n1 = 0 ∧ n2 = 0 := by omega
    refine (concatP_zero sb a1 a2 c1 c2 w s0 s1).mono ?_
    rintro e w' ⟨rfl, rfl⟩
    exact ⟨none, 0, rfl, fun h => absurd h (by omega), Below.refl _ _⟩
  · refine (concatP_two sb a1 a2 n1 n2 c1 c2 f1 f2 w hsb s0 s1 q hm hr1 hr2).mono ?_
    rintro e w' ⟨g, G, rfl, h1, h2⟩
    exact ⟨_, _, rfl, h1, h2⟩

end Go.Proofs.Ytihcioghbidblaa
