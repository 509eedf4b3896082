/-
  The verifier's own helpers at uint16: a list with memory to spare, whether it is as it was, a list spoilt.
-/
import Derived.Test.YtacophekhknbpaaOwnI
namespace Go.Proofs.Ytacophekhknbpaa
open Go.RowKit
set_option linter.unusedVariables false

theorem cap_ofU {w : World} {N g cap n : Nat} {xs : List Value} (h : w.ownsRow N 23 1 (.slice (some ⟨g, 0, none⟩) n cap) n xs) (hn : 0 < n) : n ≤ cap ∧ cap ≤ maxLen ∧ N ≤ g ∧ g < w.heap.size ∧ ∃ cur, w.heap[g]? = some (.cells cur 23 (0, 0)) ∧ cur.size = cap := by
  rcases h.2 with ⟨_, h0⟩ | ⟨g', cap', cur, hv, hb, hg, h1, h2, h3, _⟩
  · omega
  · simp only [Value.slice.injEq, Option.some.injEq, Addr.mk.injEq] at hv
    obtain ⟨⟨rfl, _⟩, _, rfl⟩ := hv
    refine ⟨h1, h2, hb, ?_, cur, hg, by omega⟩
    rcases Nat.lt_or_ge g w.heap.size with q | q
    · exact q
    · rw [Array.getElem?_eq_none q] at hg; cases hg

/-- n numbers, f twice behind them, in a row of its own from block N on -/
def AmpleU (N : Nat) (w : World) (g cap n : Nat) (l : Nat → Int) (f : Int) : Prop := w.ownsRow N 23 1 (.slice (some ⟨g, 0, none⟩) (n + 2) cap) (n + 2) ((valK .u16 l 0 n) ++ [.int .u16 f, .int .u16 f])

set_option maxHeartbeats 1000000 in
theorem ample_rowU (b off n c : Nat) (l : Nat → Int) (f : Int) (w : World) (hn : 0 < n) (hz : n * 2 ≤ 140737488351232) (hb : b < w.heap.size) (hl : ∀ t, t < n → w.cell? ⟨b, off + t, none⟩ = some (.int .u16 (l t))) :
    Calls Try.prog 29 #[.slice (some ⟨b, off, none⟩) n c, .int .u16 f] w fun e w' => ∃ g cap, e = .returned (.slice (some ⟨g, 0, none⟩) n cap) ∧ AmpleU w.heap.size w' g cap n l f ∧ Below w.heap.size w w' := by
  have HL : Hid (∀ t, t < n → w.cell? ⟨b, off + t, none⟩ = some (.int .u16 (l t))) := hl
  clear hl
  obtain ⟨i, i1, i2, i3, i4⟩ := infoU16
  obtain ⟨w1, hr, ho1, hg1⟩ := run_make_own (P := Try.prog) w w.heap.size 24 23 i (.int .u16 0) 1 Try.underlying24 i1 i2 i3 .i64 .i64 (n + 3) (by rw [i4]; omega) (by unfold maxLen; omega) (Nat.le_refl _)
  rw [show ((n + 3 : Nat) : Int) = (n : Int) + 3 by omega] at hr
  have HO1 : Hid (w1.ownsRow w.heap.size 23 1 (.slice (some ⟨w.heap.size, 0, none⟩) 0 (n + 3)) 0 []) := ho1
  have HB1 : Hid (Below w.heap.size w w1) := (Below.refl _ w).grown hg1 (Nat.le_refl _) (fun j hj => by cases hj)
  clear ho1 hg1
  go_enter Try.func29, Try.ntmps29
  go_wp2_with (at_builtin; refine wpList_append_own _ rfl _ _ 24 rfl w.heap.size 23 i (.int .u16 0) 1 2 Try.underlying24 i1 i2 i3 i4 rfl (by omega) _ _ _ rfl HO1.out ⟨b, off, none⟩ n _ ((valK .u16 l 0 n)) rfl ?qc1 ?qc2 ?qc3 ?qc4 ?qc5 ?qc6 ?_)
  case qc1 => simp [valK_length]
  case qc2 =>
    intro j u hj
    obtain ⟨hj1, rfl⟩ := valK_at hj
    (try rw [Addr.add_lit])
    rw [Nat.zero_add]
    exact (HB1.out.cell (p := ⟨b, off + j, none⟩) hb).trans (HL.out j hj1)
  case qc3 => exact fun u hu => valK_one hu
  case qc4 => unfold maxLen; omega
  case qc5 => omega
  case qc6 => exact HB1.out.size
  intro v2 w2 ho hgr _
  have HO2 : Hid (w2.ownsRow w.heap.size 23 1 v2 n ((valK .u16 l 0 n))) := ho
  have HB2 : Hid (Below w.heap.size w w2) := HB1.out.grown hgr HB1.out.size (fun k hk => (HO1.out.lt k hk).1)
  clear ho hgr
  go_wp2_with (at_builtin; refine wpList_append_own _ rfl _ _ 24 rfl w.heap.size 23 i (.int .u16 0) 1 2 Try.underlying24 i1 i2 i3 i4 rfl (by omega) _ _ _ rfl (HO2.out.alloc _) ⟨w2.heap.size, 0, none⟩ 2 _ [.int .u16 f, .int .u16 f] rfl ?qc1 ?qc2 ?qc3 ?qc4 ?qc5 ?qc6 ?_)
  try case qc1 => rfl
  try
    case qc2 =>
      intro j u hj
      match j, hj with
      | 0, hj =>
        simp at hj
        subst hj
        rw [Addr.add_lit]
        go_simp
      | 1, hj =>
        simp at hj
        subst hj
        rw [Addr.add_lit]
        go_simp
  try case qc3 => first | (intro u hu; simp at hu; subst hu; rfl) | (simp; done) | rfl
  try case qc4 => first | (unfold maxLen; omega) | (simp [maxLen]; done)
  try case qc5 => omega
  try case qc6 => first | (have := HB2.out.size; simp; omega) | (have := HB2.out.size; simp; done) | (have := HB2.out.size; omega)
  intro v3 w3 ho hgr _
  obtain ⟨g, cap, rfl, hf1, hf2⟩ := ho.form (by omega)
  obtain ⟨q1, q2, _⟩ := cap_ofU ho (by omega)
  unfold maxLen at q2
  have HO3 : Hid (AmpleU w.heap.size w3 g cap n l f) := ho
  have HB3 : Hid (Below w.heap.size w w3) := (HB2.out.alloc HB2.out.size _).grown hgr (by have := HB2.out.size; simp; omega) (fun k hk => (HO2.out.lt k hk).1)
  clear ho hgr
  have z1 : (n : Int) ≤ (cap : Int) := by omega
  go_wp2_with fail
  go_ret
  exact ⟨g, cap, rfl, HO3.out, HB3.out⟩

set_option maxHeartbeats 1000000 in
theorem ample_someU (ad : Addr) (c : Nat) (l : Nat → Int) (f : Int) (w : World) :
    Calls Try.prog 29 #[.slice (some ad) 0 c, .int .u16 f] w fun e w' => ∃ g cap, e = .returned (.slice (some ⟨g, 0, none⟩) 0 cap) ∧ AmpleU w.heap.size w' g cap 0 l f ∧ Below w.heap.size w w' := by
  obtain ⟨i, i1, i2, i3, i4⟩ := infoU16
  obtain ⟨w1, hr, ho1, hg1⟩ := run_make_own (P := Try.prog) w w.heap.size 24 23 i (.int .u16 0) 1 Try.underlying24 i1 i2 i3 .i64 .i64 3 (by rw [i4]; omega) (by unfold maxLen; omega) (Nat.le_refl _)
  rw [show ((3 : Nat) : Int) = 3 from rfl] at hr
  have HO2 : Hid (w1.ownsRow w.heap.size 23 1 (.slice (some ⟨w.heap.size, 0, none⟩) 0 3) 0 []) := ho1
  have HB2 : Hid (Below w.heap.size w w1) := (Below.refl _ w).grown hg1 (Nat.le_refl _) (fun j hj => by cases hj)
  clear ho1 hg1
  go_enter Try.func29, Try.ntmps29
  go_wp2_with (at_builtin; refine wpList_append_own _ rfl _ _ 24 rfl w.heap.size 23 i (.int .u16 0) 1 2 Try.underlying24 i1 i2 i3 i4 rfl (by omega) _ _ _ rfl (HO2.out.alloc _) ⟨w1.heap.size, 0, none⟩ 2 _ [.int .u16 f, .int .u16 f] rfl ?qc1 ?qc2 ?qc3 ?qc4 ?qc5 ?qc6 ?_)
  try case qc1 => rfl
  try
    case qc2 =>
      intro j u hj
      match j, hj with
      | 0, hj =>
        simp at hj
        subst hj
        rw [Addr.add_lit]
        go_simp
      | 1, hj =>
        simp at hj
        subst hj
        rw [Addr.add_lit]
        go_simp
  try case qc3 => first | (intro u hu; simp at hu; subst hu; rfl) | (simp; done) | rfl
  try case qc4 => first | (unfold maxLen; omega) | (simp [maxLen]; done)
  try case qc5 => omega
  try case qc6 => first | (have := HB2.out.size; simp; omega) | (have := HB2.out.size; simp; done) | (have := HB2.out.size; omega)
  intro v3 w3 ho hgr _
  obtain ⟨g, cap, rfl, hf1, hf2⟩ := ho.form (by omega)
  obtain ⟨q1, q2, _⟩ := cap_ofU ho (by omega)
  unfold maxLen at q2
  have HO3 : Hid (AmpleU w.heap.size w3 g cap 0 l f) := ho
  have HB3 : Hid (Below w.heap.size w w3) := (HB2.out.alloc HB2.out.size _).grown hgr (by have := HB2.out.size; simp; omega) (fun k hk => (HO2.out.lt k hk).1)
  clear ho hgr
  go_wp2_with fail
  go_ret
  exact ⟨g, cap, rfl, HO3.out, HB3.out⟩

set_option maxHeartbeats 1000000 in
theorem ample_nilU (c : Nat) (l : Nat → Int) (f : Int) (w : World) :
    Calls Try.prog 29 #[.slice none 0 c, .int .u16 f] w fun e w' => ∃ g cap, e = .returned (.slice (some ⟨g, 0, none⟩) 0 cap) ∧ AmpleU w.heap.size w' g cap 0 l f ∧ Below w.heap.size w w' := by
  obtain ⟨i, i1, i2, i3, i4⟩ := infoU16
  obtain ⟨w1, hr, ho1, hg1⟩ := run_make_own (P := Try.prog) w w.heap.size 24 23 i (.int .u16 0) 1 Try.underlying24 i1 i2 i3 .i64 .i64 3 (by rw [i4]; omega) (by unfold maxLen; omega) (Nat.le_refl _)
  rw [show ((3 : Nat) : Int) = 3 from rfl] at hr
  have HO2 : Hid (w1.ownsRow w.heap.size 23 1 (.slice (some ⟨w.heap.size, 0, none⟩) 0 3) 0 []) := ho1
  have HB2 : Hid (Below w.heap.size w w1) := (Below.refl _ w).grown hg1 (Nat.le_refl _) (fun j hj => by cases hj)
  clear ho1 hg1
  go_enter Try.func29, Try.ntmps29
  go_wp2_with (at_builtin; refine wpList_append_own _ rfl _ _ 24 rfl w.heap.size 23 i (.int .u16 0) 1 2 Try.underlying24 i1 i2 i3 i4 rfl (by omega) _ _ _ rfl (HO2.out.alloc _) ⟨w1.heap.size, 0, none⟩ 2 _ [.int .u16 f, .int .u16 f] rfl ?qc1 ?qc2 ?qc3 ?qc4 ?qc5 ?qc6 ?_)
  try case qc1 => rfl
  try
    case qc2 =>
      intro j u hj
      match j, hj with
      | 0, hj =>
        simp at hj
        subst hj
        rw [Addr.add_lit]
        go_simp
      | 1, hj =>
        simp at hj
        subst hj
        rw [Addr.add_lit]
        go_simp
  try case qc3 => first | (intro u hu; simp at hu; subst hu; rfl) | (simp; done) | rfl
  try case qc4 => first | (unfold maxLen; omega) | (simp [maxLen]; done)
  try case qc5 => omega
  try case qc6 => first | (have := HB2.out.size; simp; omega) | (have := HB2.out.size; simp; done) | (have := HB2.out.size; omega)
  intro v3 w3 ho hgr _
  obtain ⟨g, cap, rfl, hf1, hf2⟩ := ho.form (by omega)
  obtain ⟨q1, q2, _⟩ := cap_ofU ho (by omega)
  unfold maxLen at q2
  have HO3 : Hid (AmpleU w.heap.size w3 g cap 0 l f) := ho
  have HB3 : Hid (Below w.heap.size w w3) := (HB2.out.alloc HB2.out.size _).grown hgr (by have := HB2.out.size; simp; omega) (fun k hk => (HO2.out.lt k hk).1)
  clear ho hgr
  go_wp2_with fail
  go_ret
  exact ⟨g, cap, rfl, HO3.out, HB3.out⟩

theorem ample_anyU (la : Option Addr) (n c : Nat) (l : Nat → Int) (f : Int) (w : World) (h : RowZ .u16 2 w la n c l) :
    Calls Try.prog 29 #[.slice la n c, .int .u16 f] w fun e w' => ∃ g cap, e = .returned (.slice (some ⟨g, 0, none⟩) n cap) ∧ AmpleU w.heap.size w' g cap n l f ∧ Below w.heap.size w w' := by
  obtain ⟨⟨h1, h2, _, h4⟩, hz, _⟩ := h
  rcases Nat.eq_zero_or_pos n with q | q
  · subst q
    cases la with
    | none => exact ample_nilU c l f w
    | some ad => exact ample_someU ad c l f w
  · obtain ⟨b, off, rfl, hb, hc⟩ := h4 q
    exact ample_rowU b off n c l f w q hz hb hc

/-- a block of cap numbers, whatever they are -/
def FullU (w : World) (g cap : Nat) : Prop := ∃ xs, w.ownsRow g 23 1 (.slice (some ⟨g, 0, none⟩) cap cap) cap xs
theorem full_ofU {w : World} {g cap : Nat} {cur : Array Value} (h : w.heap[g]? = some (.cells cur 23 (0, 0))) (hs : cur.size = cap) (hm : cap ≤ maxLen) : FullU w g cap :=
  ⟨cur.toList, by simp [hs], .inr ⟨g, cap, cur, rfl, Nat.le_refl _, h, Nat.le_refl _, hm, by omega, by rw [List.take_of_length_le (by simp [hs])]⟩⟩

set_option maxHeartbeats 1000000 in
theorem spoil_anyU (g n cap : Nat) (x : Int) (w : World) (hn : n ≤ cap) (hm : cap ≤ 9223372036854775807) (hF : FullU w g cap) :
    Calls Try.prog 34 #[.slice (some ⟨g, 0, none⟩) n cap, .int .u16 x] w fun e w' => e = .returned (.tuple #[]) ∧ Only g w w' := by
  have HF : Hid (FullU w g cap) := hF
  clear hF
  go_enter Try.func34, Try.ntmps34
  go_wp2_with fail
  go_loopg [11] (cap + 1) (fun gk s wr => ∃ j : Nat, s = .int .i64 j ∧ cap - j < gk ∧ j ≤ cap ∧ Hid (FullU wr g cap) ∧ Hid (Only g w wr))
  case atStart => exact ⟨0, rfl, by omega, by omega, HF, Only.refl _ _⟩
  case round =>
    obtain ⟨j, rfl, hgk, hj, hFr, hO⟩ := hrel
    by_cases hlt : j < cap
    · have z1 : (j : Int) < (cap : Int) := by omega
      obtain ⟨xs, hx⟩ := hFr.out
      have c0 := hx.cellAt j (by omega)
      have f0 := hx.frozenAt j
      obtain ⟨u, hu⟩ : ∃ u, xs[j]? = some u := ⟨_, List.getElem?_eq_getElem (by have := hx.1; omega)⟩
      rw [hu] at c0
      have HX : Hid (wr.ownsRow g 23 1 (.slice (some ⟨g, 0, none⟩) cap cap) cap xs) := hx
      clear hx hu
      go_wp2_with fail
      go_roundg (cap - (j + 1) + 1)
      case measure => omega
      case rel => exact ⟨j + 1, by go_num, by omega, by omega, ⟨_, (HX.out.stored j _).1⟩, hO.out.set j _⟩
    · have z1 : ¬ (j : Int) < (cap : Int) := by omega
      go_wp2_with fail
      go_end0
      exact ⟨rfl, hO.out⟩

set_option maxHeartbeats 1000000 in
theorem spoil_nilU (x : Int) (w : World) :
    Calls Try.prog 34 #[.slice none 0 0, .int .u16 x] w fun e w' => e = .returned (.tuple #[]) ∧ w' = w := by
  go_enter Try.func34, Try.ntmps34
  go_wp2_with fail
  refine wp_loop_rounds 1 ?_
  rw [rounds_succ]
  go_wp2_with fail
  go_end0
  exact ⟨rfl, rfl⟩

set_option maxHeartbeats 1000000 in
theorem stays_anyU (N g cap n : Nat) (la : Option Addr) (lc : Nat) (l : Nat → Int) (f : Int) (w : World) (hz : n * 2 ≤ 140737488351232) (hA : AmpleU N w g cap n l f) (h : RowK .u16 w la n lc l) :
    Calls Try.prog 30 #[.slice (some ⟨g, 0, none⟩) n cap, .slice la n lc, .int .u16 f] w fun e w' => e = .returned (.bool true) ∧ ∃ d, w' = w.drewN d := by
  obtain ⟨q1, q2, _⟩ := cap_ofU hA (by omega)
  unfold maxLen at q2
  have row : ∀ t, t < n → w.cell? ⟨g, 0 + t, none⟩ = some (.int .u16 (l t)) := fun t ht => by
    have := hA.cellAt t (by omega)
    rw [List.getElem?_append_left (by rw [valK_length]; exact ht), valK_get ht, Nat.zero_add] at this
    rw [Nat.zero_add]
    exact this
  have e1 : w.cell? ⟨g, n, none⟩ = some (.int .u16 f) := by
    have := hA.cellAt n (by omega)
    rw [List.getElem?_append_right (by rw [valK_length]; exact Nat.le_refl _), valK_length, Nat.sub_self] at this
    exact this
  have e2 : w.cell? ⟨g, n + 1, none⟩ = some (.int .u16 f) := by
    have := hA.cellAt (n + 1) (by omega)
    rw [List.getElem?_append_right (by rw [valK_length]; omega), valK_length, show n + 1 - n = 1 by omega] at this
    exact this
  have lg := (cap_ofU hA (by omega)).2.2.2.1
  have CE : Calls Try.prog 18 #[.slice (some ⟨g, 0, none⟩) n cap, .slice la n lc] w fun e w' => e = .returned (.bool true) ∧ ∃ d, w' = w.drewN d := by
    have := equalU_core (some ⟨g, 0, none⟩) la n cap lc l l w (by omega) (fun _ => ⟨g, 0, rfl, lg, row⟩) h.2.2.2
    rw [(eqX_iff l l n).2 (fun _ _ => rfl)] at this
    exact this
  have z1 : (n : Int) + 2 ≤ (cap : Int) := by omega
  have z2 : (n : Int) < (n : Int) + 2 := by omega
  have z3 : (n : Int) + 1 < (n : Int) + 2 := by omega
  clear hA h row
  go_enter Try.func30, Try.ntmps30
  go_wp2_with fail
  refine CE.mono ?_
  rintro r w1 ⟨rfl, d, rfl⟩
  clear CE
  go_wp2_with fail
  go_ret
  exact ⟨by simp, d, rfl⟩

end Go.Proofs.Ytacophekhknbpaa
