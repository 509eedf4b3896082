/-
  Contract of the document's own FrameRead, where the form is right: words by append.
-/
import Derived.Test.YtiaolelkabbnmaaRFrmRead
namespace Go.Proofs.Ytiaolelkabbnmaa
open Go.RowKit
set_option linter.unusedVariables false
set_option linter.unusedSimpArgs false

/-- numbers as values -/
def vs32 (l : Nat → Int) (n : Nat) : List Value := (List.range n).map fun t => .int .i32 (l t)
theorem vs32_succ (l : Nat → Int) (n : Nat) : vs32 l n ++ [.int .i32 (l n)] = vs32 l (n + 1) := by unfold vs32; rw [List.range_succ, List.map_append]; rfl
theorem vs32_get (l : Nat → Int) {n j : Nat} (h : j < n) : (vs32 l n)[j]? = some (.int .i32 (l j)) := by unfold vs32; rw [List.getElem?_map, List.getElem?_range h]; rfl
theorem info32 : ∃ i, Try.prog.info? 21 = some i ∧ i.zero = some (.int .i32 0) ∧ i.size = 1 ∧ i.bytes = 4 := by
  have h : (Try.prog.info? 21).map (fun i => (i.zero, i.size, i.bytes)) = some (some (.int .i32 0), 1, 4) := by kernel_rfl
  cases hi : Try.prog.info? 21 with
  | none => rw [hi] at h; simp at h
  | some i => rw [hi] at h; simp at h; exact ⟨i, rfl, h.1, h.2.1, h.2.2⟩
/-- a frame in a box of its own, j words in a row that grows, the answer's box still empty -/
structure Rl (w : World) (K L S : Int) (l : Nat → Int) (bF j : Nat) (v : Value) (W : World) : Prop where
  rb : Rb w W
  box : Cells W bF [.int .i64 K, .int .i64 L, .int .u8 S, v]
  own : W.ownsRow (bF + 1) 21 1 v j (vs32 l j)
  hF : w.heap.size < bF
theorem Rl.step {w : World} {K L S : Int} {l : Nat → Int} {bF j : Nat} {v : Value} {W W' : World} (h : Rl w K L S l bF j v W) (hb : Below W.heap.size W W') : Rl w K L S l bF j v W' := by
  refine ⟨h.rb.step hb, h.box.step hb, ⟨h.own.1, ?_⟩, h.hF⟩
  rcases h.own.2 with hn | ⟨g, cap, cur, e, h1, h2, rest⟩
  · exact .inl hn
  · exact .inr ⟨g, cap, cur, e, h1, (hb.block g (Array.getElem?_eq_some_iff.1 h2).1).trans h2, rest⟩
theorem Rl.more {w : World} {K L S : Int} {l : Nat → Int} {bF j : Nat} {v v' : Value} {W W1 : World} {o : Obj} (h : Rl w K L S l bF j v W) (ho : W1.ownsRow (bF + 1) 21 1 v' (j + 1) (vs32 l j ++ [.int .i32 (l j)])) (hg : (W.alloc o).grownBy W1 v.ownBlock) : Rl w K L S l bF (j + 1) v' (W1.setCell ⟨bF, 3, none⟩ v') ∧ Cells W1 bF [.int .i64 K, .int .i64 L, .int .u8 S, v] := by
  have hlt := h.box.lt
  have hF := h.hF
  have hb : Below (bF + 1) W W1 := ((Below.refl _ W).alloc (by omega) _).grown hg (by simp; omega) (fun k hk => (h.own.lt k hk).1)
  have c1 : Cells W1 bF [.int .i64 K, .int .i64 L, .int .u8 S, v] := h.box.later hb (by omega)
  have r1 : Cells W1 w.heap.size [.int .i64 0, .int .i64 0, .int .u8 0, .slice none 0 0] := h.rb.box.later hb (by omega)
  refine ⟨⟨⟨r1.other (by omega) _, (h.rb.below.trans (hb.mono (by omega))).setCell (p := ⟨bF, 3, none⟩) (by simp; omega) _⟩, c1.set (j := 3) (by simp) v', ?_, hF⟩, c1⟩
  rw [vs32_succ] at ho
  refine ⟨ho.1, ?_⟩
  rcases ho.2 with hn | ⟨g, cap, cur, e, h1, h2, rest⟩
  · exact .inl hn
  · exact .inr ⟨g, cap, cur, e, h1, (Below.heap_setCell _ _ _ _ (by simp; omega)).trans h2, rest⟩
theorem Rl.wds {w : World} {K L S : Int} {l : Nat → Int} {bF j : Nat} {v : Value} {W : World} (h : Rl w K L S l bF j v W) : ∃ a c, v = .slice a j c ∧ (∀ x, a = some x → w.heap.size < x.block) ∧ Wds W a j l := by
  rcases h.own.2 with ⟨rfl, rfl⟩ | ⟨g, cap, cur, rfl, h1, h2, rest⟩
  · exact ⟨none, 0, rfl, fun x hx => (by cases hx), fun h0 => absurd h0 (by omega)⟩
  · have hF := h.hF
    refine ⟨some ⟨g, 0, none⟩, cap, rfl, fun x hx => (by cases hx; show w.heap.size < g; omega), fun h0 => ⟨g, 0, rfl, (Array.getElem?_eq_some_iff.1 h2).1, fun i hi => ?_⟩⟩
    have := h.own.cells (g := g) rfl i _ (vs32_get l hi)
    rw [Addr.add_lit] at this
    exact this

/-- the answer's box is written -/
theorem Rl.put {w W : World} {K L S : Int} {l : Nat → Int} {bF j : Nat} {a : Option Addr} {c : Nat} (h : Rl w K L S l bF j (.slice a j c) W) (v0 v1 v2 v3 : Value) :
    ∃ w3, (((W.setCell ⟨w.heap.size, 0, none⟩ v0).setCell ⟨w.heap.size, 1, none⟩ v1).setCell ⟨w.heap.size, 2, none⟩ v2).setCell ⟨w.heap.size, 3, none⟩ v3 = w3 ∧ w3.cell? ⟨w.heap.size, 0, none⟩ = some v0 ∧ w3.cell? ⟨w.heap.size, 1, none⟩ = some v1 ∧ w3.cell? ⟨w.heap.size, 2, none⟩ = some v2 ∧ w3.cell? ⟨w.heap.size, 3, none⟩ = some v3 ∧ Wds w3 a j l ∧ Below w.heap.size w w3 := by
  obtain ⟨w4, e4, y0, y1, y2, y3, hb4, hs4, ho4⟩ := box_put h.rb.box h.rb.below (Nat.le_refl _) v0 v1 v2 v3
  obtain ⟨a', c', e, hf, hw⟩ := h.wds
  simp only [Value.slice.injEq, true_and] at e
  obtain ⟨rfl, rfl⟩ := e
  refine ⟨w4, e4, y0, y1, y2, y3, fun h0 => ?_, hb4⟩
  obtain ⟨b, o, rfl, hlt, hr⟩ := hw h0
  have hne : w.heap.size < b := hf _ rfl
  exact ⟨b, o, rfl, by rw [hs4]; exact hlt, fun i hi => (World.cell?_of_block (w := W) (a := ⟨b, o + i, none⟩) (ho4 _ (by simp; omega))).trans (hr i hi)⟩

set_option maxHeartbeats 4000000 in
set_option maxRecDepth 100000 in
theorem rread_more (s t : ByteArray) (m : Nat) (w : World) (hs : t.size = 3 + 4 * m) (hm : bt t 2 = m) (HG : Hid (∀ W, Calls Try.prog 39 #[.string s] W fun e w' => e = .returned (.tuple #[.string t, .int .i64 0]) ∧ Below W.heap.size W w')) :
    Calls Try.prog 33 #[.string s] w fun e w' => ∃ a c, Wds w' a m (fun k => wd (t.extract 3 t.size) k) ∧ Below w.heap.size w w' ∧
      (frE ((bt t 0 : Int) / 16) ((bt t 0 : Int) % 16) m = 0 ∧ e = .returned (.tuple #[.agg #[.int .i64 ((bt t 0 : Int) / 16), .int .i64 ((bt t 0 : Int) % 16), .int .u8 (bt t 1), .slice a m c], .int .i64 0]) ∨
       frE ((bt t 0 : Int) / 16) ((bt t 0 : Int) % 16) m ≠ 0 ∧ e = .returned (.tuple #[.agg #[.int .i64 0, .int .i64 0, .int .u8 0, .slice none 0 0], .int .i64 (frE ((bt t 0 : Int) / 16) ((bt t 0 : Int) % 16) m)])) := by
  have B0 : Hid (Rb w _) := rb_new w 24
  have q : ¬ (t.size : Int) < 3 := by omega
  have x0 : ∀ W : World, (Instr.index 9 (.string t) (.int .i64 0)).run Try.prog W = .ok (.int .u8 (bt t 0 : Nat)) W := fun W => index_bt _ 0 (by omega) W
  have x1 : ∀ W : World, (Instr.index 9 (.string t) (.int .i64 1)).run Try.prog W = .ok (.int .u8 (bt t 1 : Nat)) W := fun W => index_bt _ 1 (by omega) W
  have x2 : ∀ W : World, (Instr.index 9 (.string t) (.int .i64 2)).run Try.prog W = .ok (.int .u8 (bt t 2 : Nat)) W := fun W => index_bt _ 2 (by omega) W
  have c2 := bt_lt t 2
  have c0 := bt_lt t 0
  have c1 := bt_lt t 1
  rw [hm] at x2 c2
  have HC : Hid (∀ a c W, Calls Try.prog 26 #[.agg #[.int .i64 ((bt t 0 : Int) / 16), .int .i64 ((bt t 0 : Int) % 16), .int .u8 (bt t 1), .slice a m c]] W fun e w' => e = .returned (.int .i64 (frE ((bt t 0 : Int) / 16) ((bt t 0 : Int) % 16) m)) ∧ Below W.heap.size W w') := fun a c W => rcheck_any _ _ _ _ _ _ W
  have q3 : ((t.size : Int) - 3 != 4 * (m : Int)) = false := by simp; omega
  have HS : Hid (t.size = 3 + 4 * m) := hs
  have hs2 : t.size ≤ 4095 := by omega
  have HI : Hid (∀ k : Nat, k < t.size → ∀ W : World, (Instr.index 9 (.string t) (.int .i64 (k : Int))).run Try.prog W = .ok (.int .u8 (bt t k : Nat)) W) := fun k hk W => index_bt t k hk W
  have HW : Hid (∀ j, j < m → wd (t.extract 3 t.size) j = sg (bt t (3 + 4 * j)) (bt t (3 + 4 * j + 1)) (bt t (3 + 4 * j + 2)) (bt t (3 + 4 * j + 3))) := fun j hj => by
    unfold wd
    rw [bt_tail _ _ _ _ (by omega), bt_tail _ _ _ _ (by omega), bt_tail _ _ _ _ (by omega), bt_tail _ _ _ _ (by omega)]
    simp only [Nat.add_assoc]
  have HB : Hid (∀ k, bt t k < 256) := bt_lt t
  clear hs hm
  generalize wd (t.extract 3 t.size) = l at *
  generalize bt t 0 = b0 at *
  generalize bt t 1 = b1 at *
  generalize frE ((b0 : Int) / 16) ((b0 : Int) % 16) m = E at *
  have e2 : IntKind.i64.wrap ((b0 : Int) / 16) = (b0 : Int) / 16 := by rw [IntKind.wrap_i64]; omega
  have e6 : IntKind.i64.wrap (b0 : Int) = (b0 : Int) := by rw [IntKind.wrap_i64]; omega
  have e4 : IntKind.i64.wrap ((b0 : Int) % 16) = (b0 : Int) % 16 := by rw [IntKind.wrap_i64]; omega
  have e5 : ((b0 : Nat) : Int).tmod 16 = (b0 : Int) % 16 := Int.tmod_eq_emod_of_nonneg (by omega)
  obtain ⟨i, i1, i2, i3, i4⟩ := info32
  go_enter Try.func33, Try.ntmps33
  go_wp2_with fail
  refine (HG.out _).mono ?_
  rintro e w1 ⟨rfl, hb⟩
  have B1 : Hid (Rb w w1) := B0.out.step hb
  clear hb B0
  go_wp2_with fail
  refine wp_region_noPanic ?_
  refine wp_region_held_drew (S := fun _ => True) (by kernel_rfl) trivial (fun _ => ?_)
  refine wpAnyH_take (i := 0) (v := .string t) rfl (by kernel_rfl) (by kernel_rfl) (by kernel_rfl) (fun _ _ _ h => h) (Or.inl ⟨by rfl, ?_⟩) trivial ?_
  · intro W _
    go_simp
  simp only [Act.put, List.setIfInBounds_toArray, List.set_cons_zero, List.set_cons_succ]
  refine wpAnyH_take (i := 1) (v := .int .u8 (b0 : Int)) rfl (by kernel_rfl) (by kernel_rfl) (by kernel_rfl) (fun _ _ _ h => h) (Or.inl ⟨by rfl, ?_⟩) trivial ?_
  · intro W _
    go_simp
  simp only [Act.put, List.setIfInBounds_toArray, List.set_cons_zero, List.set_cons_succ]
  refine wpAnyH_take (i := 2) (v := .int .i64 (b0 : Int)) rfl (by kernel_rfl) (by kernel_rfl) (by kernel_rfl) (fun _ _ _ h => h) (Or.inl ⟨by rfl, ?_⟩) trivial ?_
  · intro W _
    go_simp
  simp only [Act.put, List.setIfInBounds_toArray, List.set_cons_zero, List.set_cons_succ]
  refine wpAnyH_take (i := 3) (v := .int .i64 ((b0 : Int) / 16)) rfl (by kernel_rfl) (by kernel_rfl) (by kernel_rfl) (fun _ _ _ h => h) (Or.inl ⟨by rfl, ?_⟩) trivial ?_
  · intro W _
    go_simp
  simp only [Act.put, List.setIfInBounds_toArray, List.set_cons_zero, List.set_cons_succ]
  refine wpAnyH_take (i := 4) (v := .string t) rfl (by kernel_rfl) (by kernel_rfl) (by kernel_rfl) (fun _ _ _ h => h) (Or.inl ⟨by rfl, ?_⟩) trivial ?_
  · intro W _
    go_simp
  simp only [Act.put, List.setIfInBounds_toArray, List.set_cons_zero, List.set_cons_succ]
  refine wpAnyH_take (i := 5) (v := .int .u8 (b0 : Int)) rfl (by kernel_rfl) (by kernel_rfl) (by kernel_rfl) (fun _ _ _ h => h) (Or.inl ⟨by rfl, ?_⟩) trivial ?_
  · intro W _
    go_simp
  simp only [Act.put, List.setIfInBounds_toArray, List.set_cons_zero, List.set_cons_succ]
  refine wpAnyH_take (i := 6) (v := .int .i64 (b0 : Int)) rfl (by kernel_rfl) (by kernel_rfl) (by kernel_rfl) (fun _ _ _ h => h) (Or.inl ⟨by rfl, ?_⟩) trivial ?_
  · intro W _
    go_simp
  simp only [Act.put, List.setIfInBounds_toArray, List.set_cons_zero, List.set_cons_succ]
  refine wpAnyH_take (i := 7) (v := .int .i64 ((b0 : Int) % 16)) rfl (by kernel_rfl) (by kernel_rfl) (by kernel_rfl) (fun _ _ _ h => h) (Or.inl ⟨by rfl, ?_⟩) trivial ?_
  · intro W _
    go_simp
  simp only [Act.put, List.setIfInBounds_toArray, List.set_cons_zero, List.set_cons_succ]
  refine wpAnyH_take (i := 8) (v := .string t) rfl (by kernel_rfl) (by kernel_rfl) (by kernel_rfl) (fun _ _ _ h => h) (Or.inl ⟨by rfl, ?_⟩) trivial ?_
  · intro W _
    go_simp
  simp only [Act.put, List.setIfInBounds_toArray, List.set_cons_zero, List.set_cons_succ]
  refine wpAnyH_take (i := 9) (v := .int .u8 (b1 : Int)) rfl (by kernel_rfl) (by kernel_rfl) (by kernel_rfl) (fun _ _ _ h => h) (Or.inl ⟨by rfl, ?_⟩) trivial ?_
  · intro W _
    go_simp
  simp only [Act.put, List.setIfInBounds_toArray, List.set_cons_zero, List.set_cons_succ]
  refine wpAnyH_take (i := 10) (v := .agg #[.int .i64 ((b0 : Int) / 16), .int .i64 ((b0 : Int) % 16), .int .u8 (b1 : Int), .slice none 0 0]) rfl (by kernel_rfl) (by kernel_rfl) (by kernel_rfl) (fun _ _ _ h => h) (Or.inl ⟨by rfl, ?_⟩) trivial ?_
  · intro W _
    go_simp
  simp only [Act.put, List.setIfInBounds_toArray, List.set_cons_zero, List.set_cons_succ]
  refine wpAnyH_ready (rs := [11]) (by kernel_rfl) (by simp) ?_
  refine AllReadyH.cons rfl (fun K hK => ?_) AllReadyH.nil
  go_simp
  refine hK.out _ _ trivial (fun _ => ?_)
  clear hK K
  refine wpAnyH_ready (rs := [12]) (by kernel_rfl) (by simp) ?_
  refine AllReadyH.cons rfl (fun K hK => ?_) AllReadyH.nil
  go_simp
  refine hK.out _ _ trivial (fun _ => ?_)
  clear hK K
  refine wpAnyH_done (by kernel_rfl) ?_ _
  refine NoPanic.normal ?_
  clear q x0 x1 x2 q3 e2 e4 e5 e6 HG
  go_wp2_with fail
  have L0 : Hid (Rl w ((b0 : Int) / 16) ((b0 : Int) % 16) (b1 : Int) l w1.heap.size 0 (.slice none 0 0) (w1.alloc (.cells #[.int .i64 ((b0 : Int) / 16), .int .i64 ((b0 : Int) % 16), .int .u8 (b1 : Int), .slice none 0 0] 24)).drew) := by
    have h1 := B1.out.step (((Below.refl _ w1).alloc (Nat.le_refl _) (.cells #[.int .i64 ((b0 : Int) / 16), .int .i64 ((b0 : Int) % 16), .int .u8 (b1 : Int), .slice none 0 0] 24)).drew)
    exact ⟨h1, (cells_new w1 _ _).drew, World.ownsRow_nil _ _ _ _, B1.out.box.lt⟩
  generalize (w1.alloc (.cells #[.int .i64 ((b0 : Int) / 16), .int .i64 ((b0 : Int) % 16), .int .u8 (b1 : Int), .slice none 0 0] 24)).drew = w2 at L0 ⊢
  generalize w1.heap.size = bF at L0 ⊢
  clear B1
  go_loopw [7] (fun i wr => ∃ (j : Nat) (v : Value), j ≤ m ∧ i = .int .i64 (3 + 4 * (j : Int)) ∧ Hid (Rl w ((b0 : Int) / 16) ((b0 : Int) % 16) (b1 : Int) l bF j v wr)) (fun i _ => 3 + 4 * m - (intOf i).toNat)
  case atStart => exact ⟨0, _, by omega, rfl, L0⟩
  case round =>
    obtain ⟨j, v, hj, rfl, LJ⟩ := hrel
    obtain ⟨X, hX⟩ : ∃ X : Int, 3 + 4 * (j : Int) = X := ⟨_, rfl⟩
    rw [hX]
    have X0 : 3 ≤ X := by omega
    have X1 : X ≤ 4095 := by have := HS.out; omega
    have HX : Hid (3 + 4 * (j : Int) = X) := hX
    clear hX
    rcases Nat.lt_or_ge j m with g | g
    · have hz := HS.out
      have hz2 := HX.out
      have g1 : X < (t.size : Int) := by omega
      have q0 : ∀ W : World, (Instr.index 9 (.string t) (.int .i64 X)).run Try.prog W = .ok (.int .u8 (bt t (3 + 4 * j) : Nat)) W := fun W => by
        rw [show X = ((3 + 4 * j : Nat) : Int) by omega]; exact HI.out _ (by omega) W
      have q1 : ∀ W : World, (Instr.index 9 (.string t) (.int .i64 (X + 1))).run Try.prog W = .ok (.int .u8 (bt t (3 + 4 * j + 1) : Nat)) W := fun W => by
        rw [show X + 1 = ((3 + 4 * j + 1 : Nat) : Int) by omega]; exact HI.out _ (by omega) W
      have q2 : ∀ W : World, (Instr.index 9 (.string t) (.int .i64 (X + 2))).run Try.prog W = .ok (.int .u8 (bt t (3 + 4 * j + 2) : Nat)) W := fun W => by
        rw [show X + 2 = ((3 + 4 * j + 2 : Nat) : Int) by omega]; exact HI.out _ (by omega) W
      have q3 : ∀ W : World, (Instr.index 9 (.string t) (.int .i64 (X + 3))).run Try.prog W = .ok (.int .u8 (bt t (3 + 4 * j + 3) : Nat)) W := fun W => by
        rw [show X + 3 = ((3 + 4 * j + 3 : Nat) : Int) by omega]; exact HI.out _ (by omega) W
      clear hz hz2
      have HJ := HW.out j g
      have d0 := HB.out (3 + 4 * j)
      have d1 := HB.out (3 + 4 * j + 1)
      have d2 := HB.out (3 + 4 * j + 2)
      have d3 := HB.out (3 + 4 * j + 3)
      generalize bt t (3 + 4 * j) = p0 at q0 d0 HJ
      generalize bt t (3 + 4 * j + 1) = p1 at q1 d1 HJ
      generalize bt t (3 + 4 * j + 2) = p2 at q2 d2 HJ
      generalize bt t (3 + 4 * j + 3) = p3 at q3 d3 HJ
      obtain ⟨N, hN⟩ : ∃ N : Int, (p0 : Int) * 16777216 + (p1 : Int) * 65536 + (p2 : Int) * 256 + (p3 : Int) = N := ⟨_, rfl⟩
      have N0 : 0 ≤ N := by omega
      have N1 : N < 4294967296 := by omega
      go_wp2_with fail
      go_quiet (fail)
      have LD : Hid (Rl w ((b0 : Int) / 16) ((b0 : Int) % 16) (b1 : Int) l bF j v (wr.drewN nq)) := LJ.out.step ⟨rfl, rfl, rfl, Nat.le_refl _, fun _ _ => rfl⟩
      generalize wr.drewN nq = wd2 at LD ⊢
      obtain ⟨a, c, rfl, _, _⟩ := LD.out.wds
      have x3 := LD.out.box.cell 3 _ rfl
      have lb := LD.out.box.lt
      clear LJ q0 q1 q2 q3
      rcases Int.lt_or_le N 2147483648 with gN | gN
      · have LN : Hid (l j = N) := by rw [HJ]; unfold sg; rw [if_pos (by omega)]; show _ = N; omega
        have gN' : ¬ N ≥ 2147483648 := by omega
        clear HJ d0 d1 d2 d3
        go_wp2_with (at_builtin; refine wpList_append_own _ rfl _ _ 22 rfl (bF + 1) 21 i (.int .i32 0) 1 4 Try.underlying22 i1 i2 i3 i4 rfl (by omega) _ _ _ rfl (LD.out.own.alloc _) ⟨wd2.heap.size, 0, none⟩ 1 _ [.int .i32 (l j)] rfl ?qc1 ?qc2 ?qc3 ?qc4 ?qc5 ?qc6 ?_)
        try case qc1 => rfl
        try
          case qc2 =>
            intro k y hk
            rw [LN.out] at hk
            first
            | exact hk
            | (rcases k with _ | k
               · obtain rfl : y = _ := (Option.some.inj hk).symm
                 rw [Addr.add_lit]
                 go_simp
               · exact absurd hk (by simp))
        try case qc3 => first | (intro u hu; simp at hu; subst hu; rfl) | (simp; done) | rfl
        try case qc4 => first | (unfold maxLen; omega) | (simp [maxLen]; done)
        try case qc5 => omega
        try case qc6 => first | (have := LD.out.box.lt; simp; omega) | omega
        intro v' w1 ho hgr _
        obtain ⟨g, cap, rfl, _, _⟩ := ho.form (by omega)
        obtain ⟨m1, m2⟩ := LD.out.more ho hgr
        have L1 : Hid (Rl w ((b0 : Int) / 16) ((b0 : Int) % 16) (b1 : Int) l bF (j + 1) (.slice (some ⟨g, 0, none⟩) (j + 1) cap) (w1.setCell ⟨bF, 3, none⟩ (.slice (some ⟨g, 0, none⟩) (j + 1) cap))) := m1
        have y3 := m2.cell 3 _ rfl
        have yf := m2.froz 3 _ rfl
        clear ho hgr m1 m2 x3
        go_wp2_with fail
        go_roundw
        case rel => exact ⟨j + 1, _, by omega, by rw [show (3 : Int) + 4 * ((j + 1 : Nat) : Int) = X + 4 by have := HX.out; omega], L1⟩
        case measure => have := HX.out; simp [intOf]; omega
      · have LN : Hid (l j = N - 4294967296) := by rw [HJ]; unfold sg; rw [if_neg (by omega)]; show _ = N - 4294967296; omega
        have gN' : N ≥ 2147483648 := by omega
        clear HJ d0 d1 d2 d3
        go_wp2_with (at_builtin; refine wpList_append_own _ rfl _ _ 22 rfl (bF + 1) 21 i (.int .i32 0) 1 4 Try.underlying22 i1 i2 i3 i4 rfl (by omega) _ _ _ rfl (LD.out.own.alloc _) ⟨wd2.heap.size, 0, none⟩ 1 _ [.int .i32 (l j)] rfl ?pc1 ?pc2 ?pc3 ?pc4 ?pc5 ?pc6 ?_)
        try case pc1 => rfl
        try
          case pc2 =>
            intro k y hk
            rw [LN.out] at hk
            first
            | exact hk
            | (rcases k with _ | k
               · obtain rfl : y = _ := (Option.some.inj hk).symm
                 rw [Addr.add_lit]
                 go_simp
               · exact absurd hk (by simp))
        try case pc3 => first | (intro u hu; simp at hu; subst hu; rfl) | (simp; done) | rfl
        try case pc4 => first | (unfold maxLen; omega) | (simp [maxLen]; done)
        try case pc5 => omega
        try case pc6 => first | (have := LD.out.box.lt; simp; omega) | omega
        intro v' w1 ho hgr _
        obtain ⟨g, cap, rfl, _, _⟩ := ho.form (by omega)
        obtain ⟨m1, m2⟩ := LD.out.more ho hgr
        have L1 : Hid (Rl w ((b0 : Int) / 16) ((b0 : Int) % 16) (b1 : Int) l bF (j + 1) (.slice (some ⟨g, 0, none⟩) (j + 1) cap) (w1.setCell ⟨bF, 3, none⟩ (.slice (some ⟨g, 0, none⟩) (j + 1) cap))) := m1
        have y3 := m2.cell 3 _ rfl
        have yf := m2.froz 3 _ rfl
        clear ho hgr m1 m2 x3
        go_wp2_with fail
        go_roundw
        case rel => exact ⟨j + 1, _, by omega, by rw [show (3 : Int) + 4 * ((j + 1 : Nat) : Int) = X + 4 by have := HX.out; omega], L1⟩
        case measure => have := HX.out; simp [intOf]; omega
    · have : j = m := by omega
      subst this
      have hz := HS.out
      have hz2 := HX.out
      have g1 : ¬ X < (t.size : Int) := by omega
      clear hz hz2
      obtain ⟨a, c, rfl, hfr, hwd⟩ := LJ.out.wds
      have HWD : Hid (∀ x, a = some x → w.heap.size < x.block) := hfr
      clear hfr hwd
      have x0 := LJ.out.box.cell 0 _ rfl
      have x1 := LJ.out.box.cell 1 _ rfl
      have x2 := LJ.out.box.cell 2 _ rfl
      have x3 := LJ.out.box.cell 3 _ rfl
      go_wp2_with fail
      refine (HC.out a c _).mono ?_
      rintro e w4 ⟨rfl, hb⟩
      have L4 : Hid (Rl w ((b0 : Int) / 16) ((b0 : Int) % 16) (b1 : Int) l bF j (.slice a j c) w4) := LJ.out.step hb
      clear hb x0 x1 x2 x3 LJ
      have x0 := L4.out.box.cell 0 _ rfl
      have x1 := L4.out.box.cell 1 _ rfl
      have x2 := L4.out.box.cell 2 _ rfl
      have x3 := L4.out.box.cell 3 _ rfl
      obtain ⟨lr, r0, r1, r2, r3, f0, f1, f2, f3⟩ := L4.out.rb.facts
      by_cases hE : E = 0
      · subst hE
        go_wp2_with fail
        obtain ⟨w5, hw5, y0, y1, y2, y3, hr5, hb5⟩ := L4.out.put (.int .i64 ((b0 : Int) / 16)) (.int .i64 ((b0 : Int) % 16)) (.int .u8 (b1 : Int)) (.slice a j c)
        rw [hw5]
        refine bodyPost_ret (by simp [results, Try.results33, go_sem, y0, y1, y2, y3]; try rfl) rfl ?_
        first | exact ⟨a, c, hr5, hb5, Or.inl ⟨rfl, rfl⟩⟩ | exact ⟨a, c, hr5, hb5, rfl⟩ | exact ⟨a, hr5, hb5, c, rfl⟩
      · have hE' : (E != 0) = true := by simpa using hE
        go_wp2_with fail
        obtain ⟨w5, hw5, y0, y1, y2, y3, hr5, hb5⟩ := L4.out.put (.int .i64 0) (.int .i64 0) (.int .u8 0) (.slice none 0 0)
        rw [hw5]
        refine bodyPost_ret (by simp [results, Try.results33, go_sem, y0, y1, y2, y3]; try rfl) rfl ?_
        first | exact ⟨a, c, hr5, hb5, Or.inr ⟨hE, rfl⟩⟩ | exact ⟨a, c, hr5, hb5, rfl⟩ | exact ⟨a, hr5, hb5, c, rfl⟩

end Go.Proofs.Ytiaolelkabbnmaa
