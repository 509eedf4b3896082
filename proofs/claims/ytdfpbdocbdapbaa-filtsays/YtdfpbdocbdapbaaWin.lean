/-
  filt.Window: a new row: the last numbers, and the new one behind them.
-/
import Derived.Test.YtdfpbdocbdapbaaClone
import Derived.Lib.AppendZeros
import Derived.Laws.MakeOwn
namespace Go.Proofs.Ytdfpbdocbdapbaa
open Go.RowKit
set_option linter.unusedVariables false

theorem append_nothing {i : TypeInfo} (i1 : Try.prog.info? 21 = some i) (i3 : i.size = 1) (w : World) (ty : TypeId) (g cap : Nat) : (Builtin.append_ #[22, 22] ty #[.slice (some ⟨g, 0, none⟩) 0 cap, .slice none 0 0]).run Try.prog w = .ok (.slice (some ⟨g, 0, none⟩) 0 cap) w := by
  simp [Builtin.append_, run_underlying Try.underlying22, sizeOf, typeInfo, i1, Builtin.lenOf, Builtin.firstCells, storeCells]

set_option maxHeartbeats 1000000 in
theorem window_lt (b off ln lc s : Nat) (l : Nat → Int) (x : Int) (n : Int) (w : World) (n1 : 1 ≤ n) (n2 : n ≤ 64) (hl64 : ln ≤ 64) (hlc : ln ≤ lc) (hcm : lc ≤ 9223372036854775807) (hs : s ≤ ln)
    (h : n - 1 < (ln : Int)) (h2 : (s : Int) = n - 1) (h0 : 0 < s) (hb : 0 < ln → b < w.heap.size) (hl : ∀ t, t < ln → w.cell? ⟨b, off + t, none⟩ = some (.int .i32 (l t))) :
    Calls Try.prog 13 #[.slice (some ⟨b, off, none⟩) ln lc, .int .i32 x, .int .i64 n] w fun e w' => ∃ v, e = .returned (.tuple #[v, .int .i64 0]) ∧ w'.ownsRow w.heap.size 21 1 v (s + 1) (vals l (ln - s) s ++ [.int .i32 x]) ∧ Below w.heap.size w w' := by
  have HL : Hid (∀ t, t < ln → w.cell? ⟨b, off + t, none⟩ = some (.int .i32 (l t))) := hl
  clear hl
  have h3 : n - 1 = (s : Int) := h2.symm
  have h4 : (s : Int) < (ln : Int) := by omega
  have h6 : (ln : Int) - (s : Int) = ((ln - s : Nat) : Int) := by omega
  have hne : ¬ lc = ln - s := by omega
  clear h2 h
  have h7 : ln - (ln - s) = s := by omega
  have z1 : ¬ n < 1 := by omega
  have z2 : ¬ 64 < n := by omega
  have z3 : ¬ (64 : Int) < (ln : Int) := by omega
  obtain ⟨i, i1, i2, i3, i4⟩ := info32
  obtain ⟨w1, hr, ho1, hg1⟩ := run_make_own (P := Try.prog) w w.heap.size 22 21 i (.int .i32 0) 1 Try.underlying22 i1 i2 i3 .i64 .i64 ((s) + 1) (by rw [i4]; omega) (by unfold maxLen; omega) (Nat.le_refl _)
  rw [show ((((s) + 1 : Nat)) : Int) = ((s : Nat) : Int) + 1 by omega] at hr
  have HO1 : Hid (w1.ownsRow w.heap.size 21 1 (.slice (some ⟨w.heap.size, 0, none⟩) 0 ((s) + 1)) 0 []) := ho1
  have HB1 : Hid (Below w.heap.size w w1) := (Below.refl _ w).grown hg1 (Nat.le_refl _) (fun j hj => by cases hj)
  clear ho1 hg1
  go_enter Try.func13, Try.ntmps13
  go_wp2_with (at_builtin; refine wpList_append_own _ rfl _ _ 22 rfl w.heap.size 21 i (.int .i32 0) 1 4 Try.underlying22 i1 i2 i3 i4 rfl (by omega) _ _ _ rfl HO1.out ⟨b, off + (ln - s), none⟩ (s) _ (vals l (ln - (s)) (s)) rfl ?qc1 ?qc2 ?qc3 ?qc4 ?qc5 ?qc6 ?_)
  case qc1 => simp [vals_length]
  case qc2 =>
    intro j u hj
    obtain ⟨hj1, rfl⟩ := vals_at hj
    (try rw [Addr.add_lit])
    rw [Nat.add_assoc]
    exact (HB1.out.cell (p := ⟨b, off + (ln - s + j), none⟩) (hb (by omega))).trans (HL.out (ln - s + j) (by omega))
  case qc3 => exact fun u hu => vals_one hu
  case qc4 => unfold maxLen; omega
  case qc5 => omega
  case qc6 => exact HB1.out.size
  intro v2 w2 ho hgr _
  have HO2 : Hid (w2.ownsRow w.heap.size 21 1 v2 (s) (vals l (ln - (s)) (s))) := ho
  have HB2 : Hid (Below w.heap.size w w2) := HB1.out.grown hgr HB1.out.size (fun k hk => (HO1.out.lt k hk).1)
  clear ho hgr
  go_wp2_with (at_builtin; refine wpList_append_own _ rfl _ _ 22 rfl w.heap.size 21 i (.int .i32 0) 1 4 Try.underlying22 i1 i2 i3 i4 rfl (by omega) _ _ _ rfl (HO2.out.alloc _) ⟨w2.heap.size, 0, none⟩ 1 _ [.int .i32 x] rfl ?qc1 ?qc2 ?qc3 ?qc4 ?qc5 ?qc6 ?_)
  try case qc1 => rfl
  try
    case qc2 =>
      intro j u hj
      match j, hj with
      | 0, hj =>
        simp at hj
        subst hj
        rw [Addr.add_lit]
        go_simp
  try case qc3 => first | (intro u hu; simp at hu; subst hu; rfl) | (simp; done) | rfl
  try case qc4 => first | (unfold maxLen; omega) | (simp [maxLen]; done)
  try case qc5 => omega
  try case qc6 => first | (have := HB2.out.size; simp; omega) | (have := HB2.out.size; simp; done) | (have := HB2.out.size; omega)
  intro v3 w3 ho hgr _
  have HO3 : Hid (w3.ownsRow w.heap.size 21 1 v3 ((s) + 1) (vals l (ln - (s)) (s) ++ [.int .i32 x])) := ho
  have HB3 : Hid (Below w.heap.size w w3) := (HB2.out.alloc HB2.out.size _).grown hgr (by have := HB2.out.size; simp; omega) (fun k hk => (HO2.out.lt k hk).1)
  clear ho hgr
  go_wp2_with fail
  go_ret2
  exact ⟨v3, rfl, HO3.out, HB3.out⟩

set_option maxHeartbeats 1000000 in
theorem window_gt (b off ln lc s : Nat) (l : Nat → Int) (x : Int) (n : Int) (w : World) (n1 : 1 ≤ n) (n2 : n ≤ 64) (hl64 : ln ≤ 64) (hlc : ln ≤ lc) (hcm : lc ≤ 9223372036854775807) (hs : s ≤ ln)
    (h : (ln : Int) < n - 1) (h2 : s = ln) (h0 : 0 < s) (hb : 0 < ln → b < w.heap.size) (hl : ∀ t, t < ln → w.cell? ⟨b, off + t, none⟩ = some (.int .i32 (l t))) :
    Calls Try.prog 13 #[.slice (some ⟨b, off, none⟩) ln lc, .int .i32 x, .int .i64 n] w fun e w' => ∃ v, e = .returned (.tuple #[v, .int .i64 0]) ∧ w'.ownsRow w.heap.size 21 1 v (s + 1) (vals l (ln - s) s ++ [.int .i32 x]) ∧ Below w.heap.size w w' := by
  have HL : Hid (∀ t, t < ln → w.cell? ⟨b, off + t, none⟩ = some (.int .i32 (l t))) := hl
  clear hl
  subst h2
  rw [Nat.sub_self]
  have h6 : (s : Int) - (s : Int) = 0 := by omega
  have hne : ¬ lc = 0 := by omega
  have z1 : ¬ n < 1 := by omega
  have z2 : ¬ 64 < n := by omega
  have z3 : ¬ (64 : Int) < (s : Int) := by omega
  obtain ⟨i, i1, i2, i3, i4⟩ := info32
  obtain ⟨w1, hr, ho1, hg1⟩ := run_make_own (P := Try.prog) w w.heap.size 22 21 i (.int .i32 0) 1 Try.underlying22 i1 i2 i3 .i64 .i64 ((s) + 1) (by rw [i4]; omega) (by unfold maxLen; omega) (Nat.le_refl _)
  rw [show ((((s) + 1 : Nat)) : Int) = ((s : Nat) : Int) + 1 by omega] at hr
  have HO1 : Hid (w1.ownsRow w.heap.size 21 1 (.slice (some ⟨w.heap.size, 0, none⟩) 0 ((s) + 1)) 0 []) := ho1
  have HB1 : Hid (Below w.heap.size w w1) := (Below.refl _ w).grown hg1 (Nat.le_refl _) (fun j hj => by cases hj)
  clear ho1 hg1
  go_enter Try.func13, Try.ntmps13
  go_wp2_with (at_builtin; refine wpList_append_own _ rfl _ _ 22 rfl w.heap.size 21 i (.int .i32 0) 1 4 Try.underlying22 i1 i2 i3 i4 rfl (by omega) _ _ _ rfl HO1.out ⟨b, off, none⟩ (s) _ (vals l 0 (s)) rfl ?qc1 ?qc2 ?qc3 ?qc4 ?qc5 ?qc6 ?_)
  case qc1 => simp [vals_length]
  case qc2 =>
    intro j u hj
    obtain ⟨hj1, rfl⟩ := vals_at hj
    (try rw [Addr.add_lit])
    rw [Nat.zero_add]
    exact (HB1.out.cell (p := ⟨b, off + j, none⟩) (hb (by omega))).trans (HL.out j (by omega))
  case qc3 => exact fun u hu => vals_one hu
  case qc4 => unfold maxLen; omega
  case qc5 => omega
  case qc6 => exact HB1.out.size
  intro v2 w2 ho hgr _
  have HO2 : Hid (w2.ownsRow w.heap.size 21 1 v2 (s) (vals l 0 (s))) := ho
  have HB2 : Hid (Below w.heap.size w w2) := HB1.out.grown hgr HB1.out.size (fun k hk => (HO1.out.lt k hk).1)
  clear ho hgr
  go_wp2_with (at_builtin; refine wpList_append_own _ rfl _ _ 22 rfl w.heap.size 21 i (.int .i32 0) 1 4 Try.underlying22 i1 i2 i3 i4 rfl (by omega) _ _ _ rfl (HO2.out.alloc _) ⟨w2.heap.size, 0, none⟩ 1 _ [.int .i32 x] rfl ?qc1 ?qc2 ?qc3 ?qc4 ?qc5 ?qc6 ?_)
  try case qc1 => rfl
  try
    case qc2 =>
      intro j u hj
      match j, hj with
      | 0, hj =>
        simp at hj
        subst hj
        rw [Addr.add_lit]
        go_simp
  try case qc3 => first | (intro u hu; simp at hu; subst hu; rfl) | (simp; done) | rfl
  try case qc4 => first | (unfold maxLen; omega) | (simp [maxLen]; done)
  try case qc5 => omega
  try case qc6 => first | (have := HB2.out.size; simp; omega) | (have := HB2.out.size; simp; done) | (have := HB2.out.size; omega)
  intro v3 w3 ho hgr _
  have HO3 : Hid (w3.ownsRow w.heap.size 21 1 v3 ((s) + 1) (vals l 0 (s) ++ [.int .i32 x])) := ho
  have HB3 : Hid (Below w.heap.size w w3) := (HB2.out.alloc HB2.out.size _).grown hgr (by have := HB2.out.size; simp; omega) (fun k hk => (HO2.out.lt k hk).1)
  clear ho hgr
  go_wp2_with fail
  go_ret2
  exact ⟨v3, rfl, HO3.out, HB3.out⟩

set_option maxHeartbeats 1000000 in
theorem window_eq (b off ln lc s : Nat) (l : Nat → Int) (x : Int) (n : Int) (w : World) (n1 : 1 ≤ n) (n2 : n ≤ 64) (hl64 : ln ≤ 64) (hlc : ln ≤ lc) (hcm : lc ≤ 9223372036854775807) (hs : s ≤ ln)
    (h : n - 1 = (ln : Int)) (h2 : s = ln) (h0 : 0 < s) (hb : 0 < ln → b < w.heap.size) (hl : ∀ t, t < ln → w.cell? ⟨b, off + t, none⟩ = some (.int .i32 (l t))) :
    Calls Try.prog 13 #[.slice (some ⟨b, off, none⟩) ln lc, .int .i32 x, .int .i64 n] w fun e w' => ∃ v, e = .returned (.tuple #[v, .int .i64 0]) ∧ w'.ownsRow w.heap.size 21 1 v (s + 1) (vals l (ln - s) s ++ [.int .i32 x]) ∧ Below w.heap.size w w' := by
  have HL : Hid (∀ t, t < ln → w.cell? ⟨b, off + t, none⟩ = some (.int .i32 (l t))) := hl
  clear hl
  subst h2
  rw [Nat.sub_self]
  have h6 : (s : Int) - (s : Int) = 0 := by omega
  have hne : ¬ lc = 0 := by omega
  have z1 : ¬ n < 1 := by omega
  have z2 : ¬ 64 < n := by omega
  have z3 : ¬ (64 : Int) < (s : Int) := by omega
  obtain ⟨i, i1, i2, i3, i4⟩ := info32
  obtain ⟨w1, hr, ho1, hg1⟩ := run_make_own (P := Try.prog) w w.heap.size 22 21 i (.int .i32 0) 1 Try.underlying22 i1 i2 i3 .i64 .i64 ((s) + 1) (by rw [i4]; omega) (by unfold maxLen; omega) (Nat.le_refl _)
  rw [show ((((s) + 1 : Nat)) : Int) = ((s : Nat) : Int) + 1 by omega] at hr
  have HO1 : Hid (w1.ownsRow w.heap.size 21 1 (.slice (some ⟨w.heap.size, 0, none⟩) 0 ((s) + 1)) 0 []) := ho1
  have HB1 : Hid (Below w.heap.size w w1) := (Below.refl _ w).grown hg1 (Nat.le_refl _) (fun j hj => by cases hj)
  clear ho1 hg1
  go_enter Try.func13, Try.ntmps13
  go_wp2_with (at_builtin; refine wpList_append_own _ rfl _ _ 22 rfl w.heap.size 21 i (.int .i32 0) 1 4 Try.underlying22 i1 i2 i3 i4 rfl (by omega) _ _ _ rfl HO1.out ⟨b, off, none⟩ (s) _ (vals l 0 (s)) rfl ?qc1 ?qc2 ?qc3 ?qc4 ?qc5 ?qc6 ?_)
  case qc1 => simp [vals_length]
  case qc2 =>
    intro j u hj
    obtain ⟨hj1, rfl⟩ := vals_at hj
    (try rw [Addr.add_lit])
    rw [Nat.zero_add]
    exact (HB1.out.cell (p := ⟨b, off + j, none⟩) (hb (by omega))).trans (HL.out j (by omega))
  case qc3 => exact fun u hu => vals_one hu
  case qc4 => unfold maxLen; omega
  case qc5 => omega
  case qc6 => exact HB1.out.size
  intro v2 w2 ho hgr _
  have HO2 : Hid (w2.ownsRow w.heap.size 21 1 v2 (s) (vals l 0 (s))) := ho
  have HB2 : Hid (Below w.heap.size w w2) := HB1.out.grown hgr HB1.out.size (fun k hk => (HO1.out.lt k hk).1)
  clear ho hgr
  go_wp2_with (at_builtin; refine wpList_append_own _ rfl _ _ 22 rfl w.heap.size 21 i (.int .i32 0) 1 4 Try.underlying22 i1 i2 i3 i4 rfl (by omega) _ _ _ rfl (HO2.out.alloc _) ⟨w2.heap.size, 0, none⟩ 1 _ [.int .i32 x] rfl ?qc1 ?qc2 ?qc3 ?qc4 ?qc5 ?qc6 ?_)
  try case qc1 => rfl
  try
    case qc2 =>
      intro j u hj
      match j, hj with
      | 0, hj =>
        simp at hj
        subst hj
        rw [Addr.add_lit]
        go_simp
  try case qc3 => first | (intro u hu; simp at hu; subst hu; rfl) | (simp; done) | rfl
  try case qc4 => first | (unfold maxLen; omega) | (simp [maxLen]; done)
  try case qc5 => omega
  try case qc6 => first | (have := HB2.out.size; simp; omega) | (have := HB2.out.size; simp; done) | (have := HB2.out.size; omega)
  intro v3 w3 ho hgr _
  have HO3 : Hid (w3.ownsRow w.heap.size 21 1 v3 ((s) + 1) (vals l 0 (s) ++ [.int .i32 x])) := ho
  have HB3 : Hid (Below w.heap.size w w3) := (HB2.out.alloc HB2.out.size _).grown hgr (by have := HB2.out.size; simp; omega) (fun k hk => (HO2.out.lt k hk).1)
  clear ho hgr
  go_wp2_with fail
  go_ret2
  exact ⟨v3, rfl, HO3.out, HB3.out⟩

set_option maxHeartbeats 1000000 in
theorem window_one (ad : Addr) (ln lc : Nat) (x : Int) (n : Int) (w : World) (n1 : 1 ≤ n) (n2 : n ≤ 64) (hl64 : ln ≤ 64) (hlc : ln ≤ lc) (hcm : lc ≤ 9223372036854775807) (h : n = 1) (h0 : 0 < ln) (hne : ¬ lc = ln) :
    Calls Try.prog 13 #[.slice (some ⟨ad.block, ad.off, none⟩) ln lc, .int .i32 x, .int .i64 n] w fun e w' => ∃ v, e = .returned (.tuple #[v, .int .i64 0]) ∧ w'.ownsRow w.heap.size 21 1 v 1 [.int .i32 x] ∧ Below w.heap.size w w' := by
  subst h
  have h4 : (0 : Int) < (ln : Int) := by omega
  have z3 : ¬ (64 : Int) < (ln : Int) := by omega
  obtain ⟨i, i1, i2, i3, i4⟩ := info32
  obtain ⟨w1, hr, ho1, hg1⟩ := run_make_own (P := Try.prog) w w.heap.size 22 21 i (.int .i32 0) 1 Try.underlying22 i1 i2 i3 .i64 .i64 1 (by rw [i4]; omega) (by unfold maxLen; omega) (Nat.le_refl _)
  rw [show ((1 : Nat) : Int) = 1 from rfl] at hr
  have HO1 : Hid (w1.ownsRow w.heap.size 21 1 (.slice (some ⟨w.heap.size, 0, none⟩) 0 1) 0 []) := ho1
  have HB1 : Hid (Below w.heap.size w w1) := (Below.refl _ w).grown hg1 (Nat.le_refl _) (fun j hj => by cases hj)
  clear ho1 hg1
  go_enter Try.func13, Try.ntmps13
  have HO2 := HO1
  have HB2 := HB1
  go_wp2_with (at_builtin; refine wpList_append_own _ rfl _ _ 22 rfl w.heap.size 21 i (.int .i32 0) 1 4 Try.underlying22 i1 i2 i3 i4 rfl (by omega) _ _ _ rfl (HO2.out.alloc _) ⟨w1.heap.size, 0, none⟩ 1 _ [.int .i32 x] rfl ?qc1 ?qc2 ?qc3 ?qc4 ?qc5 ?qc6 ?_)
  try case qc1 => rfl
  try
    case qc2 =>
      intro j u hj
      match j, hj with
      | 0, hj =>
        simp at hj
        subst hj
        rw [Addr.add_lit]
        go_simp
  try case qc3 => first | (intro u hu; simp at hu; subst hu; rfl) | (simp; done) | rfl
  try case qc4 => first | (unfold maxLen; omega) | (simp [maxLen]; done)
  try case qc5 => omega
  try case qc6 => first | (have := HB2.out.size; simp; omega) | (have := HB2.out.size; simp; done) | (have := HB2.out.size; omega)
  intro v3 w3 ho hgr _
  have HO3 : Hid (w3.ownsRow w.heap.size 21 1 v3 1 ([.int .i32 x])) := ho
  have HB3 : Hid (Below w.heap.size w w3) := (HB2.out.alloc HB2.out.size _).grown hgr (by have := HB2.out.size; simp; omega) (fun k hk => (HO2.out.lt k hk).1)
  clear ho hgr
  go_wp2_with fail
  go_ret2
  exact ⟨v3, rfl, HO3.out, HB3.out⟩

set_option maxHeartbeats 1000000 in
theorem window_one_full (ad : Addr) (ln lc : Nat) (x : Int) (n : Int) (w : World) (n1 : 1 ≤ n) (n2 : n ≤ 64) (hl64 : ln ≤ 64) (hlc : ln ≤ lc) (hcm : lc ≤ 9223372036854775807) (h : n = 1) (h0 : 0 < ln) (hne : lc = ln) :
    Calls Try.prog 13 #[.slice (some ⟨ad.block, ad.off, none⟩) ln lc, .int .i32 x, .int .i64 n] w fun e w' => ∃ v, e = .returned (.tuple #[v, .int .i64 0]) ∧ w'.ownsRow w.heap.size 21 1 v 1 [.int .i32 x] ∧ Below w.heap.size w w' := by
  subst h
  subst hne
  have h4 : (0 : Int) < (lc : Int) := by omega
  have z3 : ¬ (64 : Int) < (lc : Int) := by omega
  obtain ⟨i, i1, i2, i3, i4⟩ := info32
  obtain ⟨w1, hr, ho1, hg1⟩ := run_make_own (P := Try.prog) w w.heap.size 22 21 i (.int .i32 0) 1 Try.underlying22 i1 i2 i3 .i64 .i64 1 (by rw [i4]; omega) (by unfold maxLen; omega) (Nat.le_refl _)
  rw [show ((1 : Nat) : Int) = 1 from rfl] at hr
  have HO1 : Hid (w1.ownsRow w.heap.size 21 1 (.slice (some ⟨w.heap.size, 0, none⟩) 0 1) 0 []) := ho1
  have HB1 : Hid (Below w.heap.size w w1) := (Below.refl _ w).grown hg1 (Nat.le_refl _) (fun j hj => by cases hj)
  clear ho1 hg1
  go_enter Try.func13, Try.ntmps13
  have HO2 := HO1
  have HB2 := HB1
  go_wp2_with (at_builtin; refine wpList_append_own _ rfl _ _ 22 rfl w.heap.size 21 i (.int .i32 0) 1 4 Try.underlying22 i1 i2 i3 i4 rfl (by omega) _ _ _ rfl (HO2.out.alloc _) ⟨w1.heap.size, 0, none⟩ 1 _ [.int .i32 x] rfl ?qc1 ?qc2 ?qc3 ?qc4 ?qc5 ?qc6 ?_)
  try case qc1 => rfl
  try
    case qc2 =>
      intro j u hj
      match j, hj with
      | 0, hj =>
        simp at hj
        subst hj
        rw [Addr.add_lit]
        go_simp
  try case qc3 => first | (intro u hu; simp at hu; subst hu; rfl) | (simp; done) | rfl
  try case qc4 => first | (unfold maxLen; omega) | (simp [maxLen]; done)
  try case qc5 => omega
  try case qc6 => first | (have := HB2.out.size; simp; omega) | (have := HB2.out.size; simp; done) | (have := HB2.out.size; omega)
  intro v3 w3 ho hgr _
  have HO3 : Hid (w3.ownsRow w.heap.size 21 1 v3 1 ([.int .i32 x])) := ho
  have HB3 : Hid (Below w.heap.size w w3) := (HB2.out.alloc HB2.out.size _).grown hgr (by have := HB2.out.size; simp; omega) (fun k hk => (HO2.out.lt k hk).1)
  clear ho hgr
  go_wp2_with fail
  go_ret2
  exact ⟨v3, rfl, HO3.out, HB3.out⟩

set_option maxHeartbeats 1000000 in
theorem window_some_gt (ad : Addr) (ln lc : Nat) (x : Int) (n : Int) (w : World) (n1 : 1 ≤ n) (n2 : n ≤ 64) (hl64 : ln ≤ 64) (hlc : ln ≤ lc) (hcm : lc ≤ 9223372036854775807) (h : 0 < n - 1) :
    Calls Try.prog 13 #[.slice (some ad) 0 lc, .int .i32 x, .int .i64 n] w fun e w' => ∃ v, e = .returned (.tuple #[v, .int .i64 0]) ∧ w'.ownsRow w.heap.size 21 1 v 1 [.int .i32 x] ∧ Below w.heap.size w w' := by
  have z1 : ¬ n < 1 := by omega
  have z2 : ¬ 64 < n := by omega
  obtain ⟨i, i1, i2, i3, i4⟩ := info32
  obtain ⟨w1, hr, ho1, hg1⟩ := run_make_own (P := Try.prog) w w.heap.size 22 21 i (.int .i32 0) 1 Try.underlying22 i1 i2 i3 .i64 .i64 1 (by rw [i4]; omega) (by unfold maxLen; omega) (Nat.le_refl _)
  rw [show ((1 : Nat) : Int) = 1 from rfl] at hr
  have HO1 : Hid (w1.ownsRow w.heap.size 21 1 (.slice (some ⟨w.heap.size, 0, none⟩) 0 1) 0 []) := ho1
  have HB1 : Hid (Below w.heap.size w w1) := (Below.refl _ w).grown hg1 (Nat.le_refl _) (fun j hj => by cases hj)
  clear ho1 hg1
  go_enter Try.func13, Try.ntmps13
  have HO2 := HO1
  have HB2 := HB1
  go_wp2_with (at_builtin; refine wpList_append_own _ rfl _ _ 22 rfl w.heap.size 21 i (.int .i32 0) 1 4 Try.underlying22 i1 i2 i3 i4 rfl (by omega) _ _ _ rfl (HO2.out.alloc _) ⟨w1.heap.size, 0, none⟩ 1 _ [.int .i32 x] rfl ?qc1 ?qc2 ?qc3 ?qc4 ?qc5 ?qc6 ?_)
  try case qc1 => rfl
  try
    case qc2 =>
      intro j u hj
      match j, hj with
      | 0, hj =>
        simp at hj
        subst hj
        rw [Addr.add_lit]
        go_simp
  try case qc3 => first | (intro u hu; simp at hu; subst hu; rfl) | (simp; done) | rfl
  try case qc4 => first | (unfold maxLen; omega) | (simp [maxLen]; done)
  try case qc5 => omega
  try case qc6 => first | (have := HB2.out.size; simp; omega) | (have := HB2.out.size; simp; done) | (have := HB2.out.size; omega)
  intro v3 w3 ho hgr _
  have HO3 : Hid (w3.ownsRow w.heap.size 21 1 v3 1 ([.int .i32 x])) := ho
  have HB3 : Hid (Below w.heap.size w w3) := (HB2.out.alloc HB2.out.size _).grown hgr (by have := HB2.out.size; simp; omega) (fun k hk => (HO2.out.lt k hk).1)
  clear ho hgr
  go_wp2_with fail
  go_ret2
  exact ⟨v3, rfl, HO3.out, HB3.out⟩

set_option maxHeartbeats 1000000 in
theorem window_some_eq (ad : Addr) (ln lc : Nat) (x : Int) (n : Int) (w : World) (n1 : 1 ≤ n) (n2 : n ≤ 64) (hl64 : ln ≤ 64) (hlc : ln ≤ lc) (hcm : lc ≤ 9223372036854775807) (h : n = 1) :
    Calls Try.prog 13 #[.slice (some ad) 0 lc, .int .i32 x, .int .i64 n] w fun e w' => ∃ v, e = .returned (.tuple #[v, .int .i64 0]) ∧ w'.ownsRow w.heap.size 21 1 v 1 [.int .i32 x] ∧ Below w.heap.size w w' := by
  subst h
  obtain ⟨i, i1, i2, i3, i4⟩ := info32
  obtain ⟨w1, hr, ho1, hg1⟩ := run_make_own (P := Try.prog) w w.heap.size 22 21 i (.int .i32 0) 1 Try.underlying22 i1 i2 i3 .i64 .i64 1 (by rw [i4]; omega) (by unfold maxLen; omega) (Nat.le_refl _)
  rw [show ((1 : Nat) : Int) = 1 from rfl] at hr
  have HO1 : Hid (w1.ownsRow w.heap.size 21 1 (.slice (some ⟨w.heap.size, 0, none⟩) 0 1) 0 []) := ho1
  have HB1 : Hid (Below w.heap.size w w1) := (Below.refl _ w).grown hg1 (Nat.le_refl _) (fun j hj => by cases hj)
  clear ho1 hg1
  go_enter Try.func13, Try.ntmps13
  have HO2 := HO1
  have HB2 := HB1
  go_wp2_with (at_builtin; refine wpList_append_own _ rfl _ _ 22 rfl w.heap.size 21 i (.int .i32 0) 1 4 Try.underlying22 i1 i2 i3 i4 rfl (by omega) _ _ _ rfl (HO2.out.alloc _) ⟨w1.heap.size, 0, none⟩ 1 _ [.int .i32 x] rfl ?qc1 ?qc2 ?qc3 ?qc4 ?qc5 ?qc6 ?_)
  try case qc1 => rfl
  try
    case qc2 =>
      intro j u hj
      match j, hj with
      | 0, hj =>
        simp at hj
        subst hj
        rw [Addr.add_lit]
        go_simp
  try case qc3 => first | (intro u hu; simp at hu; subst hu; rfl) | (simp; done) | rfl
  try case qc4 => first | (unfold maxLen; omega) | (simp [maxLen]; done)
  try case qc5 => omega
  try case qc6 => first | (have := HB2.out.size; simp; omega) | (have := HB2.out.size; simp; done) | (have := HB2.out.size; omega)
  intro v3 w3 ho hgr _
  have HO3 : Hid (w3.ownsRow w.heap.size 21 1 v3 1 ([.int .i32 x])) := ho
  have HB3 : Hid (Below w.heap.size w w3) := (HB2.out.alloc HB2.out.size _).grown hgr (by have := HB2.out.size; simp; omega) (fun k hk => (HO2.out.lt k hk).1)
  clear ho hgr
  go_wp2_with fail
  go_ret2
  exact ⟨v3, rfl, HO3.out, HB3.out⟩

set_option maxHeartbeats 1000000 in
theorem window_nil_gt (ad : Addr) (ln lc : Nat) (x : Int) (n : Int) (w : World) (n1 : 1 ≤ n) (n2 : n ≤ 64) (hl64 : ln ≤ 64) (hlc : ln ≤ lc) (hcm : lc ≤ 9223372036854775807) (h : 0 < n - 1) :
    Calls Try.prog 13 #[.slice none 0 lc, .int .i32 x, .int .i64 n] w fun e w' => ∃ v, e = .returned (.tuple #[v, .int .i64 0]) ∧ w'.ownsRow w.heap.size 21 1 v 1 [.int .i32 x] ∧ Below w.heap.size w w' := by
  have z1 : ¬ n < 1 := by omega
  have z2 : ¬ 64 < n := by omega
  obtain ⟨i, i1, i2, i3, i4⟩ := info32
  obtain ⟨w1, hr, ho1, hg1⟩ := run_make_own (P := Try.prog) w w.heap.size 22 21 i (.int .i32 0) 1 Try.underlying22 i1 i2 i3 .i64 .i64 1 (by rw [i4]; omega) (by unfold maxLen; omega) (Nat.le_refl _)
  rw [show ((1 : Nat) : Int) = 1 from rfl] at hr
  have HO1 : Hid (w1.ownsRow w.heap.size 21 1 (.slice (some ⟨w.heap.size, 0, none⟩) 0 1) 0 []) := ho1
  have HB1 : Hid (Below w.heap.size w w1) := (Below.refl _ w).grown hg1 (Nat.le_refl _) (fun j hj => by cases hj)
  clear ho1 hg1
  go_enter Try.func13, Try.ntmps13
  have HO2 := HO1
  have HB2 := HB1
  go_wp2_with (at_builtin; refine wpList_append_own _ rfl _ _ 22 rfl w.heap.size 21 i (.int .i32 0) 1 4 Try.underlying22 i1 i2 i3 i4 rfl (by omega) _ _ _ rfl (HO2.out.alloc _) ⟨w1.heap.size, 0, none⟩ 1 _ [.int .i32 x] rfl ?qc1 ?qc2 ?qc3 ?qc4 ?qc5 ?qc6 ?_)
  try case qc1 => rfl
  try
    case qc2 =>
      intro j u hj
      match j, hj with
      | 0, hj =>
        simp at hj
        subst hj
        rw [Addr.add_lit]
        go_simp
  try case qc3 => first | (intro u hu; simp at hu; subst hu; rfl) | (simp; done) | rfl
  try case qc4 => first | (unfold maxLen; omega) | (simp [maxLen]; done)
  try case qc5 => omega
  try case qc6 => first | (have := HB2.out.size; simp; omega) | (have := HB2.out.size; simp; done) | (have := HB2.out.size; omega)
  intro v3 w3 ho hgr _
  have HO3 : Hid (w3.ownsRow w.heap.size 21 1 v3 1 ([.int .i32 x])) := ho
  have HB3 : Hid (Below w.heap.size w w3) := (HB2.out.alloc HB2.out.size _).grown hgr (by have := HB2.out.size; simp; omega) (fun k hk => (HO2.out.lt k hk).1)
  clear ho hgr
  go_wp2_with fail
  go_ret2
  exact ⟨v3, rfl, HO3.out, HB3.out⟩

set_option maxHeartbeats 1000000 in
theorem window_nil_eq (ad : Addr) (ln lc : Nat) (x : Int) (n : Int) (w : World) (n1 : 1 ≤ n) (n2 : n ≤ 64) (hl64 : ln ≤ 64) (hlc : ln ≤ lc) (hcm : lc ≤ 9223372036854775807) (h : n = 1) :
    Calls Try.prog 13 #[.slice none 0 lc, .int .i32 x, .int .i64 n] w fun e w' => ∃ v, e = .returned (.tuple #[v, .int .i64 0]) ∧ w'.ownsRow w.heap.size 21 1 v 1 [.int .i32 x] ∧ Below w.heap.size w w' := by
  subst h
  obtain ⟨i, i1, i2, i3, i4⟩ := info32
  obtain ⟨w1, hr, ho1, hg1⟩ := run_make_own (P := Try.prog) w w.heap.size 22 21 i (.int .i32 0) 1 Try.underlying22 i1 i2 i3 .i64 .i64 1 (by rw [i4]; omega) (by unfold maxLen; omega) (Nat.le_refl _)
  rw [show ((1 : Nat) : Int) = 1 from rfl] at hr
  have HO1 : Hid (w1.ownsRow w.heap.size 21 1 (.slice (some ⟨w.heap.size, 0, none⟩) 0 1) 0 []) := ho1
  have HB1 : Hid (Below w.heap.size w w1) := (Below.refl _ w).grown hg1 (Nat.le_refl _) (fun j hj => by cases hj)
  clear ho1 hg1
  go_enter Try.func13, Try.ntmps13
  have HO2 := HO1
  have HB2 := HB1
  go_wp2_with (at_builtin; refine wpList_append_own _ rfl _ _ 22 rfl w.heap.size 21 i (.int .i32 0) 1 4 Try.underlying22 i1 i2 i3 i4 rfl (by omega) _ _ _ rfl (HO2.out.alloc _) ⟨w1.heap.size, 0, none⟩ 1 _ [.int .i32 x] rfl ?qc1 ?qc2 ?qc3 ?qc4 ?qc5 ?qc6 ?_)
  try case qc1 => rfl
  try
    case qc2 =>
      intro j u hj
      match j, hj with
      | 0, hj =>
        simp at hj
        subst hj
        rw [Addr.add_lit]
        go_simp
  try case qc3 => first | (intro u hu; simp at hu; subst hu; rfl) | (simp; done) | rfl
  try case qc4 => first | (unfold maxLen; omega) | (simp [maxLen]; done)
  try case qc5 => omega
  try case qc6 => first | (have := HB2.out.size; simp; omega) | (have := HB2.out.size; simp; done) | (have := HB2.out.size; omega)
  intro v3 w3 ho hgr _
  have HO3 : Hid (w3.ownsRow w.heap.size 21 1 v3 1 ([.int .i32 x])) := ho
  have HB3 : Hid (Below w.heap.size w w3) := (HB2.out.alloc HB2.out.size _).grown hgr (by have := HB2.out.size; simp; omega) (fun k hk => (HO2.out.lt k hk).1)
  clear ho hgr
  go_wp2_with fail
  go_ret2
  exact ⟨v3, rfl, HO3.out, HB3.out⟩

end Go.Proofs.Ytdfpbdocbdapbaa
