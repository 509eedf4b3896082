/-
  Whatever is handed in, the law LaneTurns returns true: a reset makes a lane ready; damped and set free it is as it would have been. No condition.
-/
import Derived.Test.YtcdjedfookcdkaaLanNxt
import Derived.Test.YtcdjedfookcdkaaBxs
import Derived.Test.YtcdjedfookcdkaaOpenZ
import Derived.ProofKit
namespace Go.Proofs.Ytcdjedfookcdkaa.laneTurns
open Go.ChangeShapes Go.WideShapes Go.ChangeAt Go.RowKit
set_option linter.unusedVariables false

theorem own : ownKnob Try.prog.godebug = none := by kernel_rfl
theorem laidOut : laidOutB Try.prog = true := by kernel_rfl

theorem list3 {l : List Value} (h : l.length = 3) : ∃ c0 c1 c2, l = [c0, c1, c2] := by
  match l, h with
  | [c0, c1, c2], _ => exact ⟨c0, c1, c2, rfl⟩

theorem open23 {H : Type} {enc : TypeId × Value → H} {w : World} {base : Nat} {spare : Nat → Bool} {held : Bool} {fuel : Nat} {cs : List Value} {x : DataW H × List MemPlace} (h : DataW.trod enc Try.prog w base spare held fuel 23 cs = some x) (hz : Light Try.prog 23 x.1) :
    ∃ vMode : Int, ∃ vFailed : Bool, ∃ vFor : Int, cs = [.int .i64 vMode, .bool vFailed, .int .i64 vFor] ∧ (Lit.int .i64 vMode).wf = true ∧ (Lit.int .i64 vFor).wf = true := by
  obtain ⟨hl, hf⟩ := trod_field_z Try.underlying23 h hz
  rw [show Try.prog.cellsOf 23 = 3 from by kernel_rfl] at hl
  obtain ⟨c0, c1, c2, rfl⟩ := list3 hl
  obtain ⟨n0, y0, h0, z0⟩ := hf 0 _ rfl
  replace h0 : DataW.trod enc Try.prog w base spare held n0 3 (([c0, c1, c2] : List Value).drop 0 |>.take (Try.prog.cellsOf 3)) = some y0 := h0
  rw [show Try.prog.cellsOf 3 = 1 from by kernel_rfl] at h0
  replace h0 : DataW.trod enc Try.prog w base spare held n0 3 [c0] = some y0 := h0
  obtain ⟨n1, y1, h1, z1⟩ := hf 1 _ rfl
  replace h1 : DataW.trod enc Try.prog w base spare held n1 4 (([c0, c1, c2] : List Value).drop 1 |>.take (Try.prog.cellsOf 4)) = some y1 := h1
  rw [show Try.prog.cellsOf 4 = 1 from by kernel_rfl] at h1
  replace h1 : DataW.trod enc Try.prog w base spare held n1 4 [c1] = some y1 := h1
  obtain ⟨n2, y2, h2, z2⟩ := hf 2 _ rfl
  replace h2 : DataW.trod enc Try.prog w base spare held n2 3 (([c0, c1, c2] : List Value).drop 2 |>.take (Try.prog.cellsOf 3)) = some y2 := h2
  rw [show Try.prog.cellsOf 3 = 1 from by kernel_rfl] at h2
  replace h2 : DataW.trod enc Try.prog w base spare held n2 3 [c2] = some y2 := h2
  obtain ⟨x0, e0, _, f0_0⟩ := DataW.trod_int Try.underlying3 h0
  simp only [List.cons.injEq, and_true] at e0
  obtain rfl := e0
  obtain ⟨x1, e1, _⟩ := DataW.trod_bool Try.underlying4 h1
  simp only [List.cons.injEq, and_true] at e1
  obtain rfl := e1
  obtain ⟨x2, e2, _, f2_0⟩ := DataW.trod_int Try.underlying3 h2
  simp only [List.cons.injEq, and_true] at e2
  obtain rfl := e2
  exact ⟨x0, x1, x2, rfl, f0_0, f2_0⟩


theorem first_next (W : World) : Calls Try.prog 10 #[.agg #[.int .i64 1, .bool false, .int .i64 0], .int .i64 4] W fun r w' => r = .returned (.tuple #[.agg #[.int .i64 0, .bool false, .int .i64 0], .int .i64 0]) ∧ Below W.heap.size W w' := next_ok 1 false 0 4 W (by decide) (by decide) (by decide)

set_option maxHeartbeats 8000000 in
set_option maxRecDepth 100000 in
theorem walk_bad (m : Int) (b : Bool) (n E : Int) (w : World) (h : lE m b n = E) (hE : E = 1 ∨ E = 4) :
    Calls Try.prog 5 #[.agg #[.int .i64 m, .bool b, .int .i64 n]] w fun e w' => e = .returned (.bool true) ∧ Below w.heap.size w w' := by
  have CK : Hid (_) := fun W => lcheck_any m b n W
  rw [h] at CK
  obtain ⟨N0, W0, hW0, hN0, B0', Z0'⟩ := (bxs_nil w).new #[.int .i64 m, .bool b, .int .i64 n] 23
  have HW : Hid (_) := hW0
  have HN : Hid (_) := hN0
  have B0 : Hid (_) := B0'
  clear hW0 hN0 B0' Z0' h
  go_enter Try.func5, Try.ntmps5
  go_wp2_with fail
  rw [HW.out, HN.out]
  refine (first_next _).mono ?_
  rintro r w1 ⟨rfl, hb⟩
  have B1 : Hid (_) := B0.out.step hb
  clear hb B0
  have p0 := (B1.out.box 0 _ _ rfl).cell 0 _ rfl
  have p1 := (B1.out.box 0 _ _ rfl).cell 1 _ rfl
  have p2 := (B1.out.box 0 _ _ rfl).cell 2 _ rfl
  have pl := (B1.out.box 0 _ _ rfl).lt
  go_wp2_with fail
  obtain ⟨N1, W1, hW1, hN1, B2', Z1⟩ := B1.out.new #[.int .i64 0, .bool false, .int .i64 0] 23
  rw [hW1, hN1]
  have B2 : Hid (_) := B2'
  clear hW1 hN1 B2' p0 p1 p2 pl B1
  refine (CK.out _).mono ?_
  rintro r w2 ⟨rfl, hb⟩
  have B3 : Hid (_) := B2.out.step hb
  clear hb B2
  rcases hE with rfl | rfl
  all_goals
    go_wp2_with fail
    go_ret
    exact ⟨rfl, B3.out.bel⟩

/-- the walk, given what comes of the events -/
theorem walk_ok (m : Int) (b : Bool) (n m7 n7 n5 n6 q : Int) (w : World) (HE : Hid (lE m b n = 0)) (hq : b = false ∧ q = 0 ∨ b = true ∧ q = 2) (h7 : m7 = 0 ∨ m7 = 1 ∧ m = 1)
    (C7 : Hid (∀ W, Calls Try.prog 10 #[.agg #[.int .i64 m, .bool b, .int .i64 n], .int .i64 7] W fun r w' => r = .returned (.tuple #[.agg #[.int .i64 m7, .bool false, .int .i64 n7], .int .i64 0]) ∧ Below W.heap.size W w'))
    (C5 : Hid (∀ W, Calls Try.prog 10 #[.agg #[.int .i64 m, .bool b, .int .i64 n], .int .i64 5] W fun r w' => r = .returned (.tuple #[.agg #[.int .i64 3, .bool b, .int .i64 n5], .int .i64 0]) ∧ Below W.heap.size W w'))
    (C6 : Hid (∀ W, Calls Try.prog 10 #[.agg #[.int .i64 3, .bool b, .int .i64 n5], .int .i64 6] W fun r w' => r = .returned (.tuple #[.agg #[.int .i64 q, .bool b, .int .i64 n6], .int .i64 0]) ∧ Below W.heap.size W w')) :
    Calls Try.prog 5 #[.agg #[.int .i64 m, .bool b, .int .i64 n]] w fun e w' => e = .returned (.bool true) ∧ Below w.heap.size w w' := by
  have CK : Hid (_) := fun W => lcheck_any m b n W
  rw [HE.out] at CK
  obtain ⟨N0, W0, hW0, hN0, B0', Z0'⟩ := (bxs_nil w).new #[.int .i64 m, .bool b, .int .i64 n] 23
  have HW : Hid (_) := hW0
  have HN : Hid (_) := hN0
  have B0 : Hid (_) := B0'
  clear hW0 hN0 B0' Z0' HE
  go_enter Try.func5, Try.ntmps5
  go_wp2_with fail
  rw [HW.out, HN.out]
  refine (first_next _).mono ?_
  rintro r w1 ⟨rfl, hb⟩
  have B1 : Hid (_) := B0.out.step hb
  clear hb B0
  have p0 := (B1.out.box 0 _ _ rfl).cell 0 _ rfl
  have p1 := (B1.out.box 0 _ _ rfl).cell 1 _ rfl
  have p2 := (B1.out.box 0 _ _ rfl).cell 2 _ rfl
  have pl := (B1.out.box 0 _ _ rfl).lt
  go_wp2_with fail
  obtain ⟨N1, W1, hW1, hN1, B2', Z1⟩ := B1.out.new #[.int .i64 0, .bool false, .int .i64 0] 23
  rw [hW1, hN1]
  have B2 : Hid (_) := B2'
  clear hW1 hN1 B2' p0 p1 p2 pl B1
  refine (CK.out _).mono ?_
  rintro r w2 ⟨rfl, hb⟩
  have B3 : Hid (_) := B2.out.step hb
  clear hb B2 CK
  have p0 := (B3.out.box 0 _ _ rfl).cell 0 _ rfl
  have p1 := (B3.out.box 0 _ _ rfl).cell 1 _ rfl
  have p2 := (B3.out.box 0 _ _ rfl).cell 2 _ rfl
  go_wp2_with fail
  refine (C7.out _).mono ?_
  rintro r w3 ⟨rfl, hb⟩
  have B4 : Hid (_) := B3.out.step hb
  clear hb B3 C7 p0 p1 p2
  have p0 := (B4.out.box 0 _ _ rfl).cell 0 _ rfl
  have p1 := (B4.out.box 0 _ _ rfl).cell 1 _ rfl
  have p2 := (B4.out.box 0 _ _ rfl).cell 2 _ rfl
  have pl := (B4.out.box 0 _ _ rfl).lt
  go_wp2_with fail
  obtain ⟨N2, W2, hW2, hN2, B5', Z2⟩ := B4.out.new #[.int .i64 m7, .bool false, .int .i64 n7] 23
  rw [hW2, hN2]
  have B5 : Hid (_) := B5'
  clear hW2 hN2 B5' p0 p1 p2 pl B4
  refine (C5.out _).mono ?_
  rintro r w4 ⟨rfl, hb⟩
  have B6 : Hid (_) := B5.out.step hb
  clear hb B5 C5
  go_wp2_with fail
  obtain ⟨N3, W3, hW3, hN3, B7', Z3⟩ := B6.out.new #[.int .i64 3, .bool b, .int .i64 n5] 23
  rw [hW3, hN3]
  have B7 : Hid (_) := B7'
  clear hW3 hN3 B7' B6
  refine (C6.out _).mono ?_
  rintro r w5 ⟨rfl, hb⟩
  have B8 : Hid (_) := B7.out.step hb
  clear hb B7 C6
  have p0 := (B8.out.box 0 _ _ rfl).cell 0 _ rfl
  have p1 := (B8.out.box 0 _ _ rfl).cell 1 _ rfl
  have p2 := (B8.out.box 0 _ _ rfl).cell 2 _ rfl
  have pl := (B8.out.box 0 _ _ rfl).lt
  have r0 := (B8.out.box 2 _ _ rfl).cell 0 _ rfl
  have r1 := (B8.out.box 2 _ _ rfl).cell 1 _ rfl
  have r2 := (B8.out.box 2 _ _ rfl).cell 2 _ rfl
  have rl := (B8.out.box 2 _ _ rfl).lt
  have d0 := (B8.out.box 3 _ _ rfl).cell 0 _ rfl
  have d1 := (B8.out.box 3 _ _ rfl).cell 1 _ rfl
  have d2 := (B8.out.box 3 _ _ rfl).cell 2 _ rfl
  have dl := (B8.out.box 3 _ _ rfl).lt
  rcases hq with ⟨rfl, rfl⟩ | ⟨rfl, rfl⟩ <;> rcases h7 with rfl | ⟨rfl, rfl⟩
  all_goals
    go_wp2_with fail
    go_ret
    exact ⟨rfl, (B8.out.alloc _).bel⟩

theorem walk (sMode : Int) (sFailed : Bool) (sFor : Int) (w : World) (h_sMode : (Lit.int .i64 sMode).wf = true) (h_sFor : (Lit.int .i64 sFor).wf = true) :
    Calls Try.prog 5 #[.agg #[.int .i64 sMode, .bool sFailed, .int .i64 sFor]] w fun e w' => e = .returned (.bool true) ∧ Below w.heap.size w w' := by
  rcases lE_cases sMode sFailed sFor with h | h | h
  · exact walk_bad sMode sFailed sFor 1 w h (Or.inl rfl)
  · exact walk_bad sMode sFailed sFor 4 w h (Or.inr rfl)
  · obtain ⟨⟨a1, a2⟩, _, a3⟩ := lE_ok h
    have e5 : nM sMode sFailed 5 = 3 := by unfold nM; simp
    have g5 := lE_next (e := 5) h (by decide) (by decide)
    rw [e5] at g5
    have C5 := fun W => next_ok sMode sFailed sFor 5 W h (by decide) (by decide)
    rw [e5] at C5
    have C6 := fun W => next_ok 3 sFailed (nF sMode 3 sFor) 6 W g5 (by decide) (by decide)
    exact walk_ok sMode sFailed sFor (nM sMode sFailed 7) (nF sMode (nM sMode sFailed 7) sFor) (nF sMode 3 sFor) (nF 3 (nM 3 sFailed 6) (nF sMode 3 sFor)) (nM 3 sFailed 6) w h
      (by cases sFailed <;> simp [nM]) (by unfold nM; simp; omega) (fun W => next_ok sMode sFailed sFor 7 W h (by decide) (by decide)) C5 C6

/-! ### THE ROW's STEP -/
set_option maxRecDepth 100000 in
theorem lifted (os : Os) (started : os.Started) (H : Type) (enc : TypeId × Value → H) :
    ReturnsInHanded {} Try.checked os 5 .any (Rows.laneTurnsSpec.pre6 enc Try.prog Try.f5 Rows.laneTurnsRow.domain false) (Rows.laneTurnsSpec.post enc Try.prog Try.f5 false true false false) := by
  refine returnsInHanded_of_change_sized (C := Try.checked) own started (by kernel_rfl) Try.func5
    (ChangeSpec.witness6 (enc := enc) (C := Try.checked) false ⟨#[], #[.agg #[.int .i64 0, .bool false, .int .i64 0]], []⟩ 8 (by kernel_rfl) (by kernel_rfl) (by kernel_rfl) (by kernel_rfl)) ?_
  intro W base args ds gs before hval0 hW hcnd hsz0 _
  have hval : ∀ (j : Nat) t v, Try.f5.params[j]? = some t → args[j]? = some v → Value.okWide Try.prog W .any base t v := hval0
  have hW' := hW
  obtain ⟨p, q, hA0, hV, rfl, hfz, hnd⟩ := hW
  have hA : DataW.TrodAll enc Try.prog W 0 (fun _ => true) true Try.f5.params.toList args.toList ds p := hA0
  rw [Try.params5] at hA hval
  obtain ⟨v_0, vs_0, d_0, ds_0, p_0, q_0, hargs, rfl, rfl, h_0, r_0⟩ := trodAll_cons hA
  obtain ⟨rfl, rfl, rfl⟩ := trodAll_nil r_0
  obtain rfl : args = #[v_0] := by cases args; simp_all
  obtain ⟨rfl, rfl⟩ := trodVars_none hV
  have hz_0 : Light Try.prog 23 d_0 := light_of hsz0 (j := 0) (by first | rfl | (rw [Try.params5]; rfl)) rfl
  have k_0 := h_0
  have lt_0 : ∀ x ∈ p_0, x.block < W.heap.size := by obtain ⟨m, hm⟩ := k_0; exact DataW.trod_lt m _ _ _ hm
  obtain ⟨cs_0, rfl, _⟩ := okWide_struct Try.underlying23 (hval 0 23 v_0 rfl rfl)
  obtain ⟨sMode, sFailed, sFor, e_0, h_sMode, h_sFor⟩ := (by obtain ⟨fuel, hf⟩ := h_0; exact open23 hf hz_0 : ∃ sMode : Int, ∃ sFailed : Bool, ∃ sFor : Int, cs_0.toList = [.int .i64 sMode, .bool sFailed, .int .i64 sFor] ∧ (Lit.int .i64 sMode).wf = true ∧ (Lit.int .i64 sFor).wf = true)
  obtain rfl : cs_0 = #[.int .i64 sMode, .bool sFailed, .int .i64 sFor] := by cases cs_0; simp_all
  clear e_0
  clear hA0 hval0
  refine (walk sMode sFailed sFor W h_sMode h_sFor).mono fun e W' ⟨he, bel⟩ => ?_
  subst he
  exact ⟨_, rfl, _, _, _, [], _, [], hW', trodAll_mk1 (shut_bool Try.underlying4 _), (trodAll_cons_mk (Below.trod laidOut (by kernel_rfl) (of_decide_eq_true (by kernel_rfl)) k_0 bel lt_0) trodAll_mk0), rfl, bel.frame _, fun h => by cases h⟩

theorem over : Rows.laneTurnsRow.holds Try.pinned (OpenSpec.ofChange Rows.laneTurnsSpec) :=
  OpenClaim.holds_of_wide 5 Try.f5 rfl rfl rfl rfl rfl rfl rfl ⟨rfl, rfl, rfl, rfl, rfl⟩ rfl rfl rfl rfl rfl (by kernel_rfl) Try.func5 (by kernel_rfl)
    (of_decide_eq_true (by kernel_rfl)) (by unfold Func.isWrapper; first | (rw [if_pos (by decide +kernel)]; kernel_rfl) | (rw [if_neg (by decide +kernel)]; exact ⟨rfl, rfl⟩))
    (fun os started H enc _ => lifted os started H enc)


end Go.Proofs.Ytcdjedfookcdkaa.laneTurns
namespace Go.Proofs.Ytcdjedfookcdkaa
/-- THE STATEMENT -/
theorem laneTurns_holds : Rows.LaneTurnsSaid := laneTurns.over
#print axioms laneTurns_holds
end Go.Proofs.Ytcdjedfookcdkaa
