/-
  Contract of frame.Read, where the form is right.
-/
import Derived.Test.YtiaolelkabbnmaaFrmRead
import Derived.Deep.RegionWith
namespace Go.Proofs.Ytiaolelkabbnmaa
open Go.RowKit
set_option linter.unusedVariables false
set_option linter.unusedSimpArgs false

/-- a frame in a box of its own, its words in a row of their own, the answer's box still empty -/
structure Rf (w : World) (K L S : Int) (m : Nat) (l : Nat → Int) (bF g : Nat) (W : World) : Prop where
  rb : Rb w W
  fbox : Cells W bF [.int .i64 K, .int .i64 L, .int .u8 S, .slice (some ⟨g, 0, none⟩) m m]
  row : Row32 W g 0 m l
  gl : g < W.heap.size
  hg : w.heap.size < g
  hF : w.heap.size < bF
theorem Rf.step {w : World} {K L S : Int} {m : Nat} {l : Nat → Int} {bF g : Nat} {W W' : World} (h : Rf w K L S m l bF g W) (hb : Below W.heap.size W W') : Rf w K L S m l bF g W' :=
  ⟨h.rb.step hb, h.fbox.step hb, fun j hj => (hb.cell (p := ⟨g, 0 + j, none⟩) h.gl).trans (h.row j hj), Nat.lt_of_lt_of_le h.gl hb.size, h.hg, h.hF⟩
/-- a row of words in block g, all that was there ahead as it was -/
structure Rw (w2 : World) (m : Nat) (l : Nat → Int) (g : Nat) (w3 : World) : Prop where
  row : Row32 w3 g 0 m l
  gl : g < w3.heap.size
  below : Below w2.heap.size w2 w3
theorem Cells.of_block {W W' : World} {b : Nat} {vs : List Value} (h : Cells W b vs) (e : W'.heap[b]? = W.heap[b]?) (hs : W'.heap.size = W.heap.size) : Cells W' b vs :=
  ⟨by rw [hs]; exact h.lt, fun j v hj => (World.cell?_of_block (w := W) (a := ⟨b, j, none⟩) e).trans (h.cell j v hj), fun j v hj => (World.frozen?_of_block (w := W) (a := ⟨b, j, none⟩) e).trans (h.froz j v hj)⟩
theorem rf_a {w w2 w3 : World} {K L S : Int} {m : Nat} {l : Nat → Int} {t : TypeId} (h : Rb w w2) (hw : Rw w2 m l w2.heap.size w3) : Rf w K L S m l w3.heap.size w2.heap.size (w3.alloc (.cells #[.int .i64 K, .int .i64 L, .int .u8 S, .slice (some ⟨w2.heap.size, 0, none⟩) m m] t)) := by
  have hb := (Below.refl _ w3).alloc (Nat.le_refl _) (.cells #[.int .i64 K, .int .i64 L, .int .u8 S, .slice (some ⟨w2.heap.size, 0, none⟩) m m] t)
  exact ⟨(h.step hw.below).step hb, cells_new w3 _ _, fun j hj => (hb.cell (p := ⟨w2.heap.size, 0 + j, none⟩) hw.gl).trans (hw.row j hj), Nat.lt_of_lt_of_le hw.gl hb.size, h.box.lt, Nat.lt_trans h.box.lt hw.gl⟩
theorem rf_b {w w2 w3 : World} {K L S : Int} {m : Nat} {l : Nat → Int} (h : Rb w w2) (hw : Rw w2 m l (w2.heap.size + 1) w3) (hc : Cells w3 w2.heap.size [.int .i64 0, .int .i64 0, .int .u8 0, .slice none 0 0]) : Rf w K L S m l w2.heap.size (w2.heap.size + 1) ((((w3.setCell ⟨w2.heap.size, 0, none⟩ (.int .i64 K)).setCell ⟨w2.heap.size, 1, none⟩ (.int .i64 L)).setCell ⟨w2.heap.size, 2, none⟩ (.int .u8 S)).setCell ⟨w2.heap.size, 3, none⟩ (.slice (some ⟨w2.heap.size + 1, 0, none⟩) m m)) := by
  have h1 := (((hc.set (j := 0) (by simp) (.int .i64 K)).set (j := 1) (by simp) (.int .i64 L)).set (j := 2) (by simp) (.int .u8 S)).set (j := 3) (by simp) (.slice (some ⟨w2.heap.size + 1, 0, none⟩) m m)
  have hr := h.step hw.below
  have hlt := h.box.lt
  obtain ⟨w4, e4, _, _, _, _, hb4, hs4, ho4⟩ := box_put hc hr.below (by omega) (.int .i64 K) (.int .i64 L) (.int .u8 S) (.slice (some ⟨w2.heap.size + 1, 0, none⟩) m m)
  rw [e4] at h1 ⊢
  exact ⟨⟨hr.box.of_block (ho4 _ (by omega)) hs4, hb4⟩, h1, fun j hj => (World.cell?_of_block (w := w3) (a := ⟨w2.heap.size + 1, 0 + j, none⟩) (ho4 _ (by simp))).trans (hw.row j hj), by rw [hs4]; exact hw.gl, by omega, hlt⟩
/-- the answer's box is written -/
theorem rf_put {w W : World} {K L S : Int} {m : Nat} {l : Nat → Int} {bF g : Nat} (h : Rf w K L S m l bF g W) (v0 v1 v2 v3 : Value) :
    ∃ w3, (((W.setCell ⟨w.heap.size, 0, none⟩ v0).setCell ⟨w.heap.size, 1, none⟩ v1).setCell ⟨w.heap.size, 2, none⟩ v2).setCell ⟨w.heap.size, 3, none⟩ v3 = w3 ∧ w3.cell? ⟨w.heap.size, 0, none⟩ = some v0 ∧ w3.cell? ⟨w.heap.size, 1, none⟩ = some v1 ∧ w3.cell? ⟨w.heap.size, 2, none⟩ = some v2 ∧ w3.cell? ⟨w.heap.size, 3, none⟩ = some v3 ∧ Row32 w3 g 0 m l ∧ g < w3.heap.size ∧ w.heap.size < g ∧ Below w.heap.size w w3 := by
  obtain ⟨w4, e4, y0, y1, y2, y3, hb4, hs4, ho4⟩ := box_put h.rb.box h.rb.below (Nat.le_refl _) v0 v1 v2 v3
  have hg := h.hg
  exact ⟨w4, e4, y0, y1, y2, y3, fun j hj => (World.cell?_of_block (w := W) (a := ⟨g, 0 + j, none⟩) (ho4 _ (by simp; omega))).trans (h.row j hj), by rw [hs4]; exact h.gl, hg, hb4⟩

set_option maxHeartbeats 1000000 in
set_option maxRecDepth 100000 in
theorem read_more (s t : ByteArray) (m : Nat) (w : World) (hs : t.size = 3 + 4 * m) (hm : bt t 2 = m) (HG : Hid (∀ W, Calls Try.prog 35 #[.string s] W fun e w' => e = .returned (.tuple #[.string t, .int .i64 0]) ∧ Below W.heap.size W w')) :
    Calls Try.prog 17 #[.string s] w fun e w' => ∃ g, Row32 w' g 0 m (wd (t.extract 3 t.size)) ∧ g < w'.heap.size ∧ w.heap.size < g ∧ Below w.heap.size w w' ∧
      (frE ((bt t 0 : Int) / 16) ((bt t 0 : Int) % 16) m = 0 ∧ e = .returned (.tuple #[.agg #[.int .i64 ((bt t 0 : Int) / 16), .int .i64 ((bt t 0 : Int) % 16), .int .u8 (bt t 1), .slice (some ⟨g, 0, none⟩) m m], .int .i64 0]) ∨
       frE ((bt t 0 : Int) / 16) ((bt t 0 : Int) % 16) m ≠ 0 ∧ e = .returned (.tuple #[.agg #[.int .i64 0, .int .i64 0, .int .u8 0, .slice none 0 0], .int .i64 (frE ((bt t 0 : Int) / 16) ((bt t 0 : Int) % 16) m)])) := by
  have h3 : 3 ≤ t.size := by omega
  have B0 : Hid (Rb w _) := rb_new w 24
  have q : ¬ (t.size : Int) < 3 := by omega
  have q1 := head_run t h3
  have q2 := rest_run t h3
  have i0 : ∀ W : World, (Instr.index 9 (.string (t.extract 0 3)) (.int .i64 0)).run Try.prog W = .ok (.int .u8 (bt t 0 : Nat)) W := fun W => by
    rw [← bt_extract t 3 0 (by omega)]
    exact index_bt _ 0 (by rw [extract_size _ _ _ h3]; omega) W
  have i1 : ∀ W : World, (Instr.index 9 (.string (t.extract 0 3)) (.int .i64 1)).run Try.prog W = .ok (.int .u8 (bt t 1 : Nat)) W := fun W => by
    rw [← bt_extract t 3 1 (by omega)]
    exact index_bt _ 1 (by rw [extract_size _ _ _ h3]; omega) W
  have i2 : ∀ W : World, (Instr.index 9 (.string (t.extract 0 3)) (.int .i64 2)).run Try.prog W = .ok (.int .u8 (bt t 2 : Nat)) W := fun W => by
    rw [← bt_extract t 3 2 (by omega)]
    exact index_bt _ 2 (by rw [extract_size _ _ _ h3]; omega) W
  have hl : (t.extract 3 t.size).size = 4 * m := by rw [extract_size _ _ _ (Nat.le_refl _)]; omega
  have c2 := bt_lt t 2
  have c0 := bt_lt t 0
  have c1 := bt_lt t 1
  rw [hm] at i2 c2
  have HW : Hid (∀ W, Calls Try.prog 36 #[.string (t.extract 3 t.size)] W fun e w' => e = .returned (.slice (some ⟨W.heap.size, 0, none⟩) m m) ∧ Row32 w' W.heap.size 0 m (wd (t.extract 3 t.size)) ∧ W.heap.size < w'.heap.size ∧ Below W.heap.size W w') := fun W => words_any _ m W hl (by omega)
  have HC : Hid (∀ g W, Calls Try.prog 31 #[.agg #[.int .i64 ((bt t 0 : Int) / 16), .int .i64 ((bt t 0 : Int) % 16), .int .u8 (bt t 1), .slice (some ⟨g, 0, none⟩) m m]] W fun e w' => e = .returned (.int .i64 (frE ((bt t 0 : Int) / 16) ((bt t 0 : Int) % 16) m)) ∧ Below W.heap.size W w') := fun g W => check_any _ _ _ _ _ _ W
  have q3 : (((t.extract 3 t.size).size : Int) != 4 * (m : Int)) = false := by rw [hl]; simp
  clear hl h3 hs hm
  generalize bt t 0 = b0 at *
  generalize bt t 1 = b1 at *
  generalize t.extract 0 3 = t0 at *
  generalize t.extract 3 t.size = t1 at *
  generalize wd t1 = l at *
  generalize frE ((b0 : Int) / 16) ((b0 : Int) % 16) m = E at *
  have e1 : IntKind.u8.wrap ((b0 : Int) / 16) = (b0 : Int) / 16 := by rw [IntKind.wrap_u8]; omega
  have e2 : IntKind.i64.wrap ((b0 : Int) / 16) = (b0 : Int) / 16 := by rw [IntKind.wrap_i64]; omega
  have e3 : IntKind.u8.wrap ((b0 : Int) % 16) = (b0 : Int) % 16 := by rw [IntKind.wrap_u8]; omega
  have e4 : IntKind.i64.wrap ((b0 : Int) % 16) = (b0 : Int) % 16 := by rw [IntKind.wrap_i64]; omega
  have e5 : ((b0 : Nat) : Int).tmod 16 = (b0 : Int) % 16 := Int.tmod_eq_emod_of_nonneg (by omega)
  go_enter Try.func17, Try.ntmps17
  go_wp2_with fail
  refine (HG.out _).mono ?_
  rintro e w1 ⟨rfl, hb⟩
  have B1 : Hid (Rb w w1) := B0.out.step hb
  clear hb B0
  go_wp2_with fail
  go_quiet (fail)
  have B2 : Hid (Rb w _) := B1.out.drewN nq
  generalize w1.drewN nq = w2 at B2 ⊢
  clear B1
  go_wp2_with fail
  go_cut [8] (fun p wc => ∃ bF g, p = .pointer (some ⟨bF, 0, none⟩) ∧ Hid (Rf w ((b0 : Int) / 16) ((b0 : Int) % 16) (b1 : Int) m l bF g wc))
  case first =>
    clear q q1 q2 i2 q3 HG HC c2
    refine wp_region_noPanic ?_
    refine wp_region_held_drew (S := fun _ => True) (by kernel_rfl) trivial (fun _ => ?_)
    refine wpAnyH_take (i := 0) (v := .string t0) rfl (by kernel_rfl) (by kernel_rfl) (by kernel_rfl) (fun _ _ _ h => h) (Or.inl ⟨by rfl, ?_⟩) trivial ?_
    · intro W _
      go_simp
    simp only [Act.put, List.setIfInBounds_toArray, List.set_cons_zero, List.set_cons_succ]
    refine wpAnyH_take (i := 1) (v := .int .u8 (b0 : Int)) rfl (by kernel_rfl) (by kernel_rfl) (by kernel_rfl) (fun _ _ _ h => h) (Or.inl ⟨by rfl, ?_⟩) trivial ?_
    · intro W _
      go_simp
    simp only [Act.put, List.setIfInBounds_toArray, List.set_cons_zero, List.set_cons_succ]
    refine wpAnyH_take (i := 2) (v := .int .u8 ((b0 : Int) / 16)) rfl (by kernel_rfl) (by kernel_rfl) (by kernel_rfl) (fun _ _ _ h => h) (Or.inl ⟨by rfl, ?_⟩) trivial ?_
    · intro W _
      go_simp
    simp only [Act.put, List.setIfInBounds_toArray, List.set_cons_zero, List.set_cons_succ]
    refine wpAnyH_take (i := 3) (v := .int .i64 ((b0 : Int) / 16)) rfl (by kernel_rfl) (by kernel_rfl) (by kernel_rfl) (fun _ _ _ h => h) (Or.inl ⟨by rfl, ?_⟩) trivial ?_
    · intro W _
      go_simp
    simp only [Act.put, List.setIfInBounds_toArray, List.set_cons_zero, List.set_cons_succ]
    refine wpAnyH_take (i := 4) (v := .string t0) rfl (by kernel_rfl) (by kernel_rfl) (by kernel_rfl) (fun _ _ _ h => h) (Or.inl ⟨by rfl, ?_⟩) trivial ?_
    · intro W _
      go_simp
    simp only [Act.put, List.setIfInBounds_toArray, List.set_cons_zero, List.set_cons_succ]
    refine wpAnyH_take (i := 5) (v := .int .u8 (b0 : Int)) rfl (by kernel_rfl) (by kernel_rfl) (by kernel_rfl) (fun _ _ _ h => h) (Or.inl ⟨by rfl, ?_⟩) trivial ?_
    · intro W _
      go_simp
    simp only [Act.put, List.setIfInBounds_toArray, List.set_cons_zero, List.set_cons_succ]
    refine wpAnyH_take (i := 6) (v := .int .u8 ((b0 : Int) % 16)) rfl (by kernel_rfl) (by kernel_rfl) (by kernel_rfl) (fun _ _ _ h => h) (Or.inl ⟨by rfl, ?_⟩) trivial ?_
    · intro W _
      go_simp
    simp only [Act.put, List.setIfInBounds_toArray, List.set_cons_zero, List.set_cons_succ]
    refine wpAnyH_take (i := 7) (v := .int .i64 ((b0 : Int) % 16)) rfl (by kernel_rfl) (by kernel_rfl) (by kernel_rfl) (fun _ _ _ h => h) (Or.inl ⟨by rfl, ?_⟩) trivial ?_
    · intro W _
      go_simp
    simp only [Act.put, List.setIfInBounds_toArray, List.set_cons_zero, List.set_cons_succ]
    refine wpAnyH_take (i := 8) (v := .string t0) rfl (by kernel_rfl) (by kernel_rfl) (by kernel_rfl) (fun _ _ _ h => h) (Or.inl ⟨by rfl, ?_⟩) trivial ?_
    · intro W _
      go_simp
    simp only [Act.put, List.setIfInBounds_toArray, List.set_cons_zero, List.set_cons_succ]
    refine wpAnyH_take (i := 9) (v := .int .u8 (b1 : Int)) rfl (by kernel_rfl) (by kernel_rfl) (by kernel_rfl) (fun _ _ _ h => h) (Or.inl ⟨by rfl, ?_⟩) trivial ?_
    · intro W _
      go_simp
    simp only [Act.put, List.setIfInBounds_toArray, List.set_cons_zero, List.set_cons_succ]
    refine wpAnyH_take (i := 10) (v := .string t1) rfl (by kernel_rfl) (by kernel_rfl) (by kernel_rfl) (fun _ _ _ h => h) (Or.inl ⟨by rfl, ?_⟩) trivial ?_
    · intro W _
      go_simp
    simp only [Act.put, List.setIfInBounds_toArray, List.set_cons_zero, List.set_cons_succ]
    refine wpAnyH_ready (rs := [11, 13]) (by kernel_rfl) (by simp) ?_
    refine AllReadyH.cons rfl (fun K hK => ?_) (AllReadyH.cons rfl (fun K hK => ?_) AllReadyH.nil)
    · go_simp
      refine (HW.out _).mono ?_
      rintro e w3 ⟨rfl, hr, hgl, hb⟩
      have BB : Hid (Rw w2 m l w2.heap.size w3) := ⟨hr, hgl, (Below.refl _ w2).drew.trans hb⟩
      clear hr hgl hb
      refine hK.out _ _ trivial (fun _ => ?_)
      clear hK K
      refine wpAnyH_take (i := 12) (v := .agg #[.int .i64 ((b0 : Int) / 16), .int .i64 ((b0 : Int) % 16), .int .u8 (b1 : Int), .slice (some ⟨w2.heap.size, 0, none⟩) m m]) rfl (by kernel_rfl) (by kernel_rfl) (by kernel_rfl) (fun _ _ _ h => h) (Or.inl ⟨by rfl, ?_⟩) trivial ?_
      · intro W _
        go_simp
      simp only [Act.put, List.setIfInBounds_toArray, List.set_cons_zero, List.set_cons_succ]
      refine wpAnyH_ready (rs := [13]) (by kernel_rfl) (by simp) ?_
      refine AllReadyH.cons rfl (fun K hK => ?_) AllReadyH.nil
      go_simp
      refine hK.out _ _ trivial (fun _ => ?_)
      clear hK K
      refine wpAnyH_ready (rs := [14]) (by kernel_rfl) (by simp) ?_
      refine AllReadyH.cons rfl (fun K hK => ?_) AllReadyH.nil
      go_simp
      refine hK.out _ _ trivial (fun _ => ?_)
      clear hK K
      refine wpAnyH_done (by kernel_rfl) ?_ _
      refine NoPanic.normal ?_
      (try go_wp2_with fail)
      go_meet
      case rel => exact ⟨_, _, rfl, rf_a B2.out BB.out⟩
    · go_simp
      refine hK.out _ _ trivial (fun _ => ?_)
      clear hK K
      refine wpAnyH_ready (rs := [11]) (by kernel_rfl) (by simp) ?_
      refine AllReadyH.cons rfl (fun K hK => ?_) AllReadyH.nil
      go_simp
      refine (HW.out _).mono ?_
      rintro e w3 ⟨rfl, hr, hgl, hb⟩
      have x0 := (hb.cell (p := ⟨w2.heap.size, 0, none⟩) (by simp)).trans (show _ = some (Value.int .i64 0) by go_simp)
      have z0 := (hb.frozen (p := ⟨w2.heap.size, 0, none⟩) (by simp)).trans (show _ = false by go_simp)
      have x1 := (hb.cell (p := ⟨w2.heap.size, 1, none⟩) (by simp)).trans (show _ = some (Value.int .i64 0) by go_simp)
      have z1 := (hb.frozen (p := ⟨w2.heap.size, 1, none⟩) (by simp)).trans (show _ = false by go_simp)
      have x2 := (hb.cell (p := ⟨w2.heap.size, 2, none⟩) (by simp)).trans (show _ = some (Value.int .u8 0) by go_simp)
      have z2 := (hb.frozen (p := ⟨w2.heap.size, 2, none⟩) (by simp)).trans (show _ = false by go_simp)
      have x3 := (hb.cell (p := ⟨w2.heap.size, 3, none⟩) (by simp)).trans (show _ = some (Value.slice none 0 0) by go_simp)
      have z3 := (hb.frozen (p := ⟨w2.heap.size, 3, none⟩) (by simp)).trans (show _ = false by go_simp)
      have g3 : w2.heap.size < w3.heap.size := Nat.lt_of_lt_of_le (by simp) hb.size
      have CX : Hid (Cells w3 w2.heap.size [.int .i64 0, .int .i64 0, .int .u8 0, .slice none 0 0]) := ((cells_new w2 _ _).drew).step hb
      have BA : Hid (Rw w2 m l (w2.heap.size + 1) w3) := ⟨by simpa using hr, by simpa using hgl, (((Below.refl _ w2).alloc (Nat.le_refl _) _).drew).trans (hb.mono (by simp))⟩
      clear hr hgl hb
      refine hK.out _ _ trivial (fun _ => ?_)
      clear hK K
      refine wpAnyH_take (i := 12) (v := .agg #[.int .i64 ((b0 : Int) / 16), .int .i64 ((b0 : Int) % 16), .int .u8 (b1 : Int), .slice (some ⟨w2.heap.size + 1, 0, none⟩) m m]) rfl (by kernel_rfl) (by kernel_rfl) (by kernel_rfl) (fun _ _ _ h => h) (Or.inl ⟨by rfl, ?_⟩) trivial ?_
      · intro W _
        go_simp
      simp only [Act.put, List.setIfInBounds_toArray, List.set_cons_zero, List.set_cons_succ]
      refine wpAnyH_ready (rs := [14]) (by kernel_rfl) (by simp) ?_
      refine AllReadyH.cons rfl (fun K hK => ?_) AllReadyH.nil
      go_simp
      refine hK.out _ _ trivial (fun _ => ?_)
      clear hK K
      refine wpAnyH_done (by kernel_rfl) ?_ _
      refine NoPanic.normal ?_
      (try go_wp2_with fail)
      go_meet
      case rel => exact ⟨_, _, rfl, rf_b B2.out BA.out CX.out⟩
  case rest =>
    obtain ⟨bF, g, rfl, RF⟩ := hcut
    have x0 := RF.out.fbox.cell 0 _ rfl
    have x1 := RF.out.fbox.cell 1 _ rfl
    have x2 := RF.out.fbox.cell 2 _ rfl
    have x3 := RF.out.fbox.cell 3 _ rfl
    clear q q1 q2 i0 i1 i2 q3 e1 e2 e3 e4 e5
    go_wp2_with fail
    refine (HC.out g _).mono ?_
    rintro e w4 ⟨rfl, hb⟩
    have RF2 : Hid (Rf w ((b0 : Int) / 16) ((b0 : Int) % 16) (b1 : Int) m l bF g w4) := RF.out.step hb
    clear hb x0 x1 x2 x3 RF
    have x0 := RF2.out.fbox.cell 0 _ rfl
    have x1 := RF2.out.fbox.cell 1 _ rfl
    have x2 := RF2.out.fbox.cell 2 _ rfl
    have x3 := RF2.out.fbox.cell 3 _ rfl
    obtain ⟨lr, r0, r1, r2, r3, f0, f1, f2, f3⟩ := RF2.out.rb.facts
    by_cases hE : E = 0
    · subst hE
      go_wp2_with fail
      obtain ⟨w5, hw5, y0, y1, y2, y3, hr5, hl5, hg5, hb5⟩ := rf_put RF2.out (.int .i64 ((b0 : Int) / 16)) (.int .i64 ((b0 : Int) % 16)) (.int .u8 (b1 : Int)) (.slice (some ⟨g, 0, none⟩) m m)
      rw [hw5]
      refine bodyPost_ret (by simp [results, Try.results17, go_sem, y0, y1, y2, y3]; try rfl) rfl ?_
      first | exact ⟨g, hr5, hl5, hg5, hb5, Or.inl ⟨rfl, rfl⟩⟩ | exact ⟨g, hr5, hl5, hg5, hb5, rfl⟩
    · have hE' : (E != 0) = true := by simpa using hE
      go_wp2_with fail
      obtain ⟨w5, hw5, y0, y1, y2, y3, hr5, hl5, hg5, hb5⟩ := rf_put RF2.out (.int .i64 0) (.int .i64 0) (.int .u8 0) (.slice none 0 0)
      rw [hw5]
      refine bodyPost_ret (by simp [results, Try.results17, go_sem, y0, y1, y2, y3]; try rfl) rfl ?_
      first | exact ⟨g, hr5, hl5, hg5, hb5, Or.inr ⟨hE, rfl⟩⟩ | exact ⟨g, hr5, hl5, hg5, hb5, rfl⟩

end Go.Proofs.Ytiaolelkabbnmaa
