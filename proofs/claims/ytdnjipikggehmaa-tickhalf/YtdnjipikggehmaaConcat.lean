/-
  slices.Grow of nothing, slices.Concat of two rows of numbers of 64 bits: a new row that holds the one and, behind it, the other.
-/
import Derived.Test.YtdnjipikggehmaaClone
import Derived.Lib.AppendZeros
namespace Go.Proofs.Ytdnjipikggehmaa
open Go.RowKit
set_option linter.unusedVariables false

theorem zero_size (z : Value) (h : z.cells.size = 1) (n : Nat) : (Builtin.zeroCells z.cells n).size = n := by
  unfold Builtin.zeroCells
  rw [Array.size_map, Array.size_range, h, Nat.mul_one]

set_option maxHeartbeats 1000000 in
theorem grow_any (n : Nat) (hn : 0 < n) (hm : n ≤ 1048576) (w : World) :
    Calls Try.prog 24 #[.slice none 0 0, .int .i64 n] w fun e w' => ∃ v, e = .returned v ∧ w'.ownsRow w.heap.size 3 1 v 0 [] ∧ Below w.heap.size w w' := by
  obtain ⟨i, i1, i2, i3, i4⟩ := info32
  have hr := fun ty => Lib.run_append_nil_zeros (P := Try.prog) w 22 3 ty 3 i (.int .i64 0) .i64 .i64 Try.underlying22 Try.underlying3 i1 i2 n hn (by omega) (by omega) (by rw [i4]; omega)
  have g1 := grownCap_ge w n 0 3
  have g2 := grownCap_le_maxLen w n 0 3 (by unfold maxLen; omega)
  generalize grownCap w n 0 3 = G at hr g1 g2
  have hA : (Builtin.zeroCells (Value.int .i64 0).cells n ++ Builtin.zeroCells (Value.int .i64 0).cells (G - n)).size = G * 1 := by
    rw [Array.size_append, zero_size _ rfl, zero_size _ rfl]; omega
  generalize Builtin.zeroCells (Value.int .i64 0).cells n ++ Builtin.zeroCells (Value.int .i64 0).cells (G - n) = A at hr hA
  have HO : Hid ((w.drew.alloc (.cells A 3)).ownsRow w.heap.size 3 1 (.slice (some ⟨w.heap.size, 0, none⟩) 0 G) 0 []) := World.ownsRow_made w.drew A G (Nat.le_refl _) g2 hA
  have HB : Hid (Below w.heap.size w (w.drew.alloc (.cells A 3))) := ((Below.refl _ w).drew).alloc (Nat.le_refl _) _
  have z1 : ¬ (n : Int) < 0 := by omega
  have z2 : (0 : Int) < (n : Int) := by omega
  unfold maxLen at g2
  clear hA i1 i2 i3 i4
  go_enter Try.func24, Try.ntmps24
  go_wp2_with (at_builtin; refine Lib.wpList_append_run _ rfl _ _ _ _ rfl _ _ rfl rfl _ _ (hr _) ?_)
  go_ret
  exact ⟨_, rfl, HO.out, HB.out⟩

set_option maxHeartbeats 4000000 in
set_option maxRecDepth 100000 in
theorem concat_any (sb : Nat) (a1 a2 : Addr) (n1 n2 c1 c2 : Nat) (f1 f2 : Nat → Int) (w : World) (hsb : sb < w.heap.size) (s0 : w.cell? ⟨sb, 0, none⟩ = some (.slice (some a1) n1 c1)) (s1 : w.cell? ⟨sb, 1, none⟩ = some (.slice (some a2) n2 c2))
    (hn : 0 < n1 + n2) (hm : n1 + n2 ≤ 1048576) (hf1 : ∀ j u, (vals f1 0 n1)[j]? = some u → (a1.add j).block < w.heap.size ∧ w.cell? (a1.add j) = some u) (hf2 : ∀ j u, (vals f2 0 n2)[j]? = some u → (a2.add j).block < w.heap.size ∧ w.cell? (a2.add j) = some u) :
    Calls Try.prog 13 #[.slice (some ⟨sb, 0, none⟩) 2 2] w fun e w' => ∃ v, e = .returned v ∧ w'.ownsRow w.heap.size 3 1 v (n1 + n2) (vals f1 0 n1 ++ vals f2 0 n2) ∧ Below w.heap.size w w' := by
  have H1 : Hid (∀ j u, (vals f1 0 n1)[j]? = some u → (a1.add j).block < w.heap.size ∧ w.cell? (a1.add j) = some u) := hf1
  have H2 : Hid (∀ j u, (vals f2 0 n2)[j]? = some u → (a2.add j).block < w.heap.size ∧ w.cell? (a2.add j) = some u) := hf2
  clear hf1 hf2
  have z1 : ¬ (n1 : Int) < 0 := by omega
  have z2 : ¬ (n1 : Int) + (n2 : Int) < 0 := by omega
  have hg := grow_any (n1 + n2) hn hm w
  rw [show ((n1 + n2 : Nat) : Int) = (n1 : Int) + (n2 : Int) by omega] at hg
  obtain ⟨i, i1, i2, i3, i4⟩ := info32
  go_enter Try.func13, Try.ntmps13
  go_wp2_with fail
  refine wp_loop_rounds 3 ?_
  rw [rounds_succ]
  go_wp2_with fail
  rw [rounds_succ]
  go_wp2_with fail
  rw [rounds_succ]
  go_wp2_with fail
  refine hg.mono ?_
  rintro e w1 ⟨v, rfl, ho, hb⟩
  have HO1 : Hid (w1.ownsRow w.heap.size 3 1 v 0 []) := ho
  have HB1 : Hid (Below w.heap.size w w1) := hb
  have t0 := (hb.cell (p := ⟨sb, 0, none⟩) hsb).trans s0
  have t1 := (hb.cell (p := ⟨sb, 1, none⟩) hsb).trans s1
  clear ho hb hg s0 s1
  go_wp2_with fail
  refine wp_loop_rounds 3 ?_
  rw [rounds_succ]
  go_wp2_with (at_builtin; refine wpList_append_own _ rfl _ _ 22 rfl w.heap.size 3 i (.int .i64 0) 1 8 Try.underlying22 i1 i2 i3 i4 rfl (by omega) _ _ _ rfl HO1.out a1 n1 c1 (vals f1 0 n1) rfl ?qc1 ?qc2 ?qc3 ?qc4 ?qc5 ?qc6 ?_)
  case qc1 => rw [vals_length]; omega
  case qc2 =>
    intro j u hj
    obtain ⟨k1, k2⟩ := H1.out j u hj
    exact (HB1.out.cell k1).trans k2
  case qc3 => exact fun u hu => vals_one hu
  case qc4 => unfold maxLen; omega
  case qc5 => omega
  case qc6 => exact HB1.out.size
  intro v1 w2 ho hgr _
  have HO2 : Hid (w2.ownsRow w.heap.size 3 1 v1 n1 (vals f1 0 n1)) := ho
  have hb : Below w.heap.size w w2 := HB1.out.grown hgr HB1.out.size (fun k hk => (HO1.out.lt k hk).1)
  have HB2 : Hid (Below w.heap.size w w2) := hb
  have b1 : sb < w1.heap.size := Nat.lt_of_lt_of_le hsb HB1.out.size
  have ne : some sb ≠ v.ownBlock := fun e => by have := (HO1.out.lt sb e.symm).1; omega
  have u0 := (World.cell?_of_block (hgr.block sb b1 ne)).trans t0
  have u1 := (World.cell?_of_block (a := ⟨sb, 1, none⟩) (hgr.block sb b1 ne)).trans t1
  clear ho hgr hb t0 t1 HO1 HB1 ne
  go_wp2_with fail
  rw [rounds_succ]
  go_wp2_with (at_builtin; refine wpList_append_own _ rfl _ _ 22 rfl w.heap.size 3 i (.int .i64 0) 1 8 Try.underlying22 i1 i2 i3 i4 rfl (by omega) _ _ _ rfl HO2.out a2 n2 c2 (vals f2 0 n2) rfl ?qc1 ?qc2 ?qc3 ?qc4 ?qc5 ?qc6 ?_)
  case qc1 => rw [vals_length]; omega
  case qc2 =>
    intro j u hj
    obtain ⟨k1, k2⟩ := H2.out j u hj
    exact (HB2.out.cell k1).trans k2
  case qc3 => exact fun u hu => vals_one hu
  case qc4 => unfold maxLen; omega
  case qc5 => omega
  case qc6 => exact HB2.out.size
  intro v2 w3 ho hgr _
  have HO3 : Hid (w3.ownsRow w.heap.size 3 1 v2 (n1 + n2) (vals f1 0 n1 ++ vals f2 0 n2)) := ho
  have HB3 : Hid (Below w.heap.size w w3) := HB2.out.grown hgr HB2.out.size (fun k hk => (HO2.out.lt k hk).1)
  clear ho hgr u0 u1
  go_wp2_with fail
  rw [rounds_succ]
  go_wp2_with fail
  go_ret
  exact ⟨v2, rfl, HO3.out, HB3.out⟩

end Go.Proofs.Ytdnjipikggehmaa
