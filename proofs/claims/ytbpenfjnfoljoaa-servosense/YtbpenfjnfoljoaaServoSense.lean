/-
  Whatever is handed in, the law ServoSense returns true: a sensor whose coils are together as they should be tells the place; one whose coils are not tells nothing; coils exchanged turn the sign. No condition.
-/
import Derived.Test.YtbpenfjnfoljoaaSrv
import Derived.Test.YtbpenfjnfoljoaaKeep
import Derived.Test.YtbpenfjnfoljoaaOpenZ
import Derived.ProofKit
namespace Go.Proofs.Ytbpenfjnfoljoaa.servoSense
open Go.ChangeShapes Go.WideShapes Go.ChangeAt Go.RowKit
set_option linter.unusedVariables false

theorem own : ownKnob Try.prog.godebug = none := by kernel_rfl
theorem laidOut : laidOutB Try.prog = true := by kernel_rfl

theorem list3 {l : List Value} (h : l.length = 3) : ∃ c0 c1 c2, l = [c0, c1, c2] := by
  match l, h with
  | [c0, c1, c2], _ => exact ⟨c0, c1, c2, rfl⟩

theorem open23 {H : Type} {enc : TypeId × Value → H} {w : World} {base : Nat} {spare : Nat → Bool} {held : Bool} {fuel : Nat} {cs : List Value} {x : DataW H × List MemPlace} (h : DataW.trod enc Try.prog w base spare held fuel 23 cs = some x) (hz : Light Try.prog 23 x.1) :
    ∃ vSum : Int, ∃ vWide : Int, ∃ vFull : Int, cs = [.int .i32 vSum, .int .i32 vWide, .int .i32 vFull] ∧ (Lit.int .i32 vSum).wf = true ∧ (Lit.int .i32 vWide).wf = true ∧ (Lit.int .i32 vFull).wf = true := by
  obtain ⟨hl, hf⟩ := trod_field_z Try.underlying23 h hz
  rw [show Try.prog.cellsOf 23 = 3 from by kernel_rfl] at hl
  obtain ⟨c0, c1, c2, rfl⟩ := list3 hl
  obtain ⟨n0, y0, h0, z0⟩ := hf 0 _ rfl
  replace h0 : DataW.trod enc Try.prog w base spare held n0 21 (([c0, c1, c2] : List Value).drop 0 |>.take (Try.prog.cellsOf 21)) = some y0 := h0
  rw [show Try.prog.cellsOf 21 = 1 from by kernel_rfl] at h0
  replace h0 : DataW.trod enc Try.prog w base spare held n0 21 [c0] = some y0 := h0
  obtain ⟨n1, y1, h1, z1⟩ := hf 1 _ rfl
  replace h1 : DataW.trod enc Try.prog w base spare held n1 21 (([c0, c1, c2] : List Value).drop 1 |>.take (Try.prog.cellsOf 21)) = some y1 := h1
  rw [show Try.prog.cellsOf 21 = 1 from by kernel_rfl] at h1
  replace h1 : DataW.trod enc Try.prog w base spare held n1 21 [c1] = some y1 := h1
  obtain ⟨n2, y2, h2, z2⟩ := hf 2 _ rfl
  replace h2 : DataW.trod enc Try.prog w base spare held n2 21 (([c0, c1, c2] : List Value).drop 2 |>.take (Try.prog.cellsOf 21)) = some y2 := h2
  rw [show Try.prog.cellsOf 21 = 1 from by kernel_rfl] at h2
  replace h2 : DataW.trod enc Try.prog w base spare held n2 21 [c2] = some y2 := h2
  obtain ⟨x0, e0, _, f0_0⟩ := DataW.trod_int Try.underlying21 h0
  simp only [List.cons.injEq, and_true] at e0
  obtain rfl := e0
  obtain ⟨x1, e1, _, f1_0⟩ := DataW.trod_int Try.underlying21 h1
  simp only [List.cons.injEq, and_true] at e1
  obtain rfl := e1
  obtain ⟨x2, e2, _, f2_0⟩ := DataW.trod_int Try.underlying21 h2
  simp only [List.cons.injEq, and_true] at e2
  obtain rfl := e2
  exact ⟨x0, x1, x2, rfl, f0_0, f1_0, f2_0⟩


theorem first (W : World) : Calls Try.prog 6 #[.int .i32 6, .int .i32 2, .agg #[.int .i32 8, .int .i32 0, .int .i32 262144]] W fun r w' => r = .returned (.tuple #[.int .i32 131072, .bool true, .int .i64 0]) ∧ Below W.heap.size W w' := by
  have := sense_yes 6 2 8 0 262144 W ⟨by decide, by decide⟩ ⟨by decide, by decide⟩ ⟨by decide, by decide⟩ ⟨by decide, by decide⟩ ⟨by decide, by decide⟩ ⟨by decide, by decide, by decide⟩ ⟨by decide, by decide, by decide⟩
  rw [show seP 6 2 262144 = 131072 from by decide +kernel] at this
  exact this

/-- coils exchanged turn the sign, but for rounding -/
theorem turned {a b F : Int} (ha : I32 a) (hb : I32 b) (hF : 0 ≤ F) (hF2 : F ≤ 2147483647) (h1 : 1 ≤ a + b) (h : absI (a - b) ≤ 2147483647) : -1 ≤ seP a b F + seP b a F ∧ seP a b F + seP b a F ≤ 1 := by
  have hd : -2147483647 ≤ a - b ∧ a - b ≤ 2147483647 := by unfold absI at h; split at h <;> omega
  unfold seP
  rw [show b + a = a + b from by omega, show b - a = -(a - b) from by omega]
  have hz : 0 < s32 (a + b) := by
    unfold s32
    have h2 := bnd_in (a := a + b) (b := -2147483648) (c := 2147483647) (by decide)
    unfold bnd at *
    repeat' split
    all_goals omega
  generalize s32 (a + b) = z at *
  generalize a - b = d at *
  have e1 : s32 d = d := bnd_mid (by omega) (by omega)
  have e2 : s32 (-d) = -d := bnd_mid (by omega) (by omega)
  rw [e1, e2]
  unfold divI
  rw [if_neg (by omega), if_neg (by omega), show -d * 65536 = -(d * 65536) from by omega, Int.neg_tdiv]
  generalize (d * 65536).tdiv z = N
  unfold mulI scaleI
  rcases Int.lt_or_le N (-2147483647) with q | q
  · have f1 : s32 N = -2147483648 := by unfold s32 bnd; repeat' split
                                        all_goals omega
    have f2 : s32 (-N) = 2147483647 := by unfold s32 bnd; repeat' split
                                          all_goals omega
    rw [f1, f2]
    unfold s32 bnd
    repeat' split
    all_goals omega
  · rcases Int.lt_or_le 2147483647 N with q2 | q2
    · have f1 : s32 N = 2147483647 := bnd_high (by omega) q2
      have f2 : s32 (-N) = -2147483648 := by unfold s32 bnd; repeat' split
                                             all_goals omega
      rw [f1, f2]
      unfold s32 bnd
      repeat' split
      all_goals omega
    · have f1 : s32 N = N := bnd_mid (by omega) q2
      have f2 : s32 (-N) = -N := bnd_mid (by omega) (by omega)
      rw [f1, f2, Int.neg_mul]
      generalize N * F = X
      unfold s32 bnd
      repeat' split
      all_goals omega

/-- the box of the sensor -/
structure Sn (w : World) (S U F : Int) (W : World) : Prop where
  bel : Below w.heap.size w W
  sv : Cells W w.heap.size [.int .i32 S, .int .i32 U, .int .i32 F]
theorem Sn.step {w : World} {S U F : Int} {W W' : World} (h : Sn w S U F W) (hb : Below W.heap.size W W') : Sn w S U F W' := ⟨below_then h.bel hb, h.sv.step hb⟩
theorem sn_new (w : World) (S U F : Int) (ty : TypeId) : Sn w S U F (w.alloc (.cells #[.int .i32 S, .int .i32 U, .int .i32 F] ty)) := ⟨one_box _ _, cells_new w #[.int .i32 S, .int .i32 U, .int .i32 F] ty⟩
theorem Sn.alloc {w : World} {S U F : Int} {W : World} (h : Sn w S U F W) (x : Obj) : Sn w S U F (W.alloc x) := h.step ((Below.refl _ W).alloc (Nat.le_refl _) _)

set_option maxHeartbeats 4000000 in
set_option maxRecDepth 100000 in
theorem walk_no (S U F a b E : Int) (w : World) (hE : E = 0 ∨ E = 1) (C1 : Hid (∀ W, Calls Try.prog 6 #[.int .i32 a, .int .i32 b, .agg #[.int .i32 S, .int .i32 U, .int .i32 F]] W fun r w' => r = .returned (.tuple #[.int .i32 0, .bool false, .int .i64 E]) ∧ Below W.heap.size W w')) (C2 : Hid (∀ W, Calls Try.prog 6 #[.int .i32 b, .int .i32 a, .agg #[.int .i32 S, .int .i32 U, .int .i32 F]] W fun r w' => r = .returned (.tuple #[.int .i32 0, .bool false, .int .i64 E]) ∧ Below W.heap.size W w')) :
    Calls Try.prog 4 #[.agg #[.int .i32 S, .int .i32 U, .int .i32 F], .int .i32 a, .int .i32 b] w fun e w' => e = .returned (.bool true) ∧ Below w.heap.size w w' := by
  have B0 : Hid (_) := (sn_new w S U F 23).alloc (.cells #[.int .i32 8, .int .i32 0, .int .i32 262144] 23)
  go_enter Try.func4, Try.ntmps4
  go_wp2_with fail
  refine (first _).mono ?_
  rintro r w1 ⟨rfl, hb⟩
  have B1 : Hid (_) := B0.out.step hb
  clear hb B0
  have c0 := B1.out.sv.cell 0 _ rfl
  have c1 := B1.out.sv.cell 1 _ rfl
  have c2 := B1.out.sv.cell 2 _ rfl
  go_wp2_with fail
  refine (C1.out _).mono ?_
  rintro r w2 ⟨rfl, hb⟩
  have B2 : Hid (_) := B1.out.step hb
  clear hb B1 c0 c1 c2
  have c0 := B2.out.sv.cell 0 _ rfl
  have c1 := B2.out.sv.cell 1 _ rfl
  have c2 := B2.out.sv.cell 2 _ rfl
  go_wp2_with fail
  refine (C2.out _).mono ?_
  rintro r w3 ⟨rfl, hb⟩
  have B3 : Hid (_) := B2.out.step hb
  clear hb B2 c0 c1 c2
  rcases hE with rfl | rfl
  · go_wp2_with fail
    go_ret
    exact ⟨rfl, B3.out.bel⟩
  · go_wp2_with fail
    go_ret
    exact ⟨rfl, B3.out.bel⟩

set_option maxHeartbeats 4000000 in
set_option maxRecDepth 100000 in
theorem walk_yes (S U F a b p q : Int) (w : World) (ha : I32 a) (hb : I32 b) (hp : I32 p) (hq : I32 q) (ht : absI (a - b) ≤ 2147483647 → -1 ≤ p + q ∧ p + q ≤ 1) (C1 : Hid (∀ W, Calls Try.prog 6 #[.int .i32 a, .int .i32 b, .agg #[.int .i32 S, .int .i32 U, .int .i32 F]] W fun r w' => r = .returned (.tuple #[.int .i32 p, .bool true, .int .i64 0]) ∧ Below W.heap.size W w')) (C2 : Hid (∀ W, Calls Try.prog 6 #[.int .i32 b, .int .i32 a, .agg #[.int .i32 S, .int .i32 U, .int .i32 F]] W fun r w' => r = .returned (.tuple #[.int .i32 q, .bool true, .int .i64 0]) ∧ Below W.heap.size W w')) :
    Calls Try.prog 4 #[.agg #[.int .i32 S, .int .i32 U, .int .i32 F], .int .i32 a, .int .i32 b] w fun e w' => e = .returned (.bool true) ∧ Below w.heap.size w w' := by
  have B0 : Hid (_) := (sn_new w S U F 23).alloc (.cells #[.int .i32 8, .int .i32 0, .int .i32 262144] 23)
  have C3 : Hid (_) := fun W => apart_any a b ha.1 ha.2 hb.1 hb.2 W
  obtain ⟨p1, p2⟩ := hp
  obtain ⟨q1, q2⟩ := hq
  obtain ⟨M, hM⟩ : ∃ M, max (p + q) (-(p + q)) = M := ⟨_, rfl⟩
  have MX : ∀ (ts : Array TypeId) (t : TypeId) W, (Builtin.max_ ts t #[.int .i64 (p + q), .int .i64 (-(p + q))]).run Try.prog W = .ok (.int .i64 M) W := fun ts t W => by
    rw [run_max_int2 W ts t .i64 .i64 (p + q) (-(p + q))]
    by_cases e : p + q < -(p + q)
    · rw [if_pos e, show M = -(p + q) from by omega]
    · rw [if_neg e, show M = p + q from by omega]
  have hw : M ≤ 1 ∨ 2147483647 < absI (a - b) := by
    rcases Int.lt_or_le 2147483647 (absI (a - b)) with h | h
    · exact Or.inr h
    · have := ht h
      exact Or.inl (by omega)
  generalize absI (a - b) = A at *
  clear hM ht ha hb
  go_enter Try.func4, Try.ntmps4
  go_wp2_with fail
  refine (first _).mono ?_
  rintro r w1 ⟨rfl, hb⟩
  have B1 : Hid (_) := B0.out.step hb
  clear hb B0
  have c0 := B1.out.sv.cell 0 _ rfl
  have c1 := B1.out.sv.cell 1 _ rfl
  have c2 := B1.out.sv.cell 2 _ rfl
  go_wp2_with fail
  refine (C1.out _).mono ?_
  rintro r w2 ⟨rfl, hb⟩
  have B2 : Hid (_) := B1.out.step hb
  clear hb B1 c0 c1 c2
  have c0 := B2.out.sv.cell 0 _ rfl
  have c1 := B2.out.sv.cell 1 _ rfl
  have c2 := B2.out.sv.cell 2 _ rfl
  go_wp2_with fail
  refine (C2.out _).mono ?_
  rintro r w3 ⟨rfl, hb⟩
  have B3 : Hid (_) := B2.out.step hb
  clear hb B2 c0 c1 c2
  by_cases g : M ≤ 1
  · clear hw
    go_wp2_with fail
    go_ret
    exact ⟨rfl, B3.out.bel⟩
  · have g2 : 2147483647 < A := by omega
    clear hw
    go_wp2_with fail
    refine (C3.out _).mono ?_
    rintro r w4 ⟨rfl, rfl⟩
    go_wp2_with fail
    go_ret
    exact ⟨rfl, B3.out.bel⟩

theorem fits_turn {a b S U : Int} (h : Fits a b S U) : Fits b a S U := by
  unfold Fits at *
  omega

theorem walk (sSum : Int) (sWide : Int) (sFull : Int) (a : Int) (b : Int) (w : World) (h_sSum : (Lit.int .i32 sSum).wf = true) (h_sWide : (Lit.int .i32 sWide).wf = true) (h_sFull : (Lit.int .i32 sFull).wf = true) (h_a : (Lit.int .i32 a).wf = true) (h_b : (Lit.int .i32 b).wf = true) :
    Calls Try.prog 4 #[.agg #[.int .i32 sSum, .int .i32 sWide, .int .i32 sFull], .int .i32 a, .int .i32 b] w fun e w' => e = .returned (.bool true) ∧ Below w.heap.size w w' := by
  have ha : I32 a := i32_of h_a
  have hb : I32 b := i32_of h_b
  have hS : I32 sSum := i32_of h_sSum
  have hU : I32 sWide := i32_of h_sWide
  have hF : I32 sFull := i32_of h_sFull
  by_cases h : OkS sSum sWide sFull
  · by_cases h2 : Fits a b sSum sWide
    · exact walk_yes _ _ _ _ _ _ _ w ha hb (seP_I a b sFull) (seP_I b a sFull) (fun q => turned ha hb h.2.2 hF.2 h2.1 q) (fun W => sense_yes _ _ _ _ _ W ha hb hS hU hF h h2) (fun W => sense_yes _ _ _ _ _ W hb ha hS hU hF h (fits_turn h2))
    · exact walk_no _ _ _ _ _ 0 w (Or.inl rfl) (fun W => sense_no _ _ _ _ _ W ha hb hS hU h h2) (fun W => sense_no _ _ _ _ _ W hb ha hS hU h (fun q => h2 (fits_turn q)))
  · exact walk_no _ _ _ _ _ 1 w (Or.inr rfl) (fun W => sense_bad _ _ _ _ _ W h) (fun W => sense_bad _ _ _ _ _ W h)

/-! ### THE ROW's STEP -/
set_option maxRecDepth 100000 in
theorem lifted (os : Os) (started : os.Started) (H : Type) (enc : TypeId × Value → H) :
    ReturnsInHanded {} Try.checked os 4 .any (Rows.servoSenseSpec.pre6 enc Try.prog Try.f4 Rows.servoSenseRow.domain false) (Rows.servoSenseSpec.post enc Try.prog Try.f4 false true false false) := by
  refine returnsInHanded_of_change_sized (C := Try.checked) own started (by kernel_rfl) Try.func4
    (ChangeSpec.witness6 (enc := enc) (C := Try.checked) false ⟨#[], #[.agg #[.int .i32 0, .int .i32 0, .int .i32 0], .int .i32 0, .int .i32 0], []⟩ 8 (by kernel_rfl) (by kernel_rfl) (by kernel_rfl) (by kernel_rfl)) ?_
  intro W base args ds gs before hval0 hW hcnd hsz0 _
  have hval : ∀ (j : Nat) t v, Try.f4.params[j]? = some t → args[j]? = some v → Value.okWide Try.prog W .any base t v := hval0
  have hW' := hW
  obtain ⟨p, q, hA0, hV, rfl, hfz, hnd⟩ := hW
  have hA : DataW.TrodAll enc Try.prog W 0 (fun _ => true) true Try.f4.params.toList args.toList ds p := hA0
  rw [Try.params4] at hA hval
  obtain ⟨v_0, vs_0, d_0, ds_0, p_0, q_0, hargs, rfl, rfl, h_0, r_0⟩ := trodAll_cons hA
  obtain ⟨v_1, vs_1, d_1, ds_1, p_1, q_1, rfl, rfl, rfl, h_1, r_1⟩ := trodAll_cons r_0
  obtain ⟨v_2, vs_2, d_2, ds_2, p_2, q_2, rfl, rfl, rfl, h_2, r_2⟩ := trodAll_cons r_1
  obtain ⟨rfl, rfl, rfl⟩ := trodAll_nil r_2
  obtain rfl : args = #[v_0, v_1, v_2] := by cases args; simp_all
  obtain ⟨rfl, rfl⟩ := trodVars_none hV
  have hz_0 : Light Try.prog 23 d_0 := light_of hsz0 (j := 0) (by first | rfl | (rw [Try.params4]; rfl)) rfl
  have k_0 := h_0
  have lt_0 : ∀ x ∈ p_0, x.block < W.heap.size := by obtain ⟨m, hm⟩ := k_0; exact DataW.trod_lt m _ _ _ hm
  obtain ⟨cs_0, rfl, _⟩ := okWide_struct Try.underlying23 (hval 0 23 v_0 rfl rfl)
  obtain ⟨sSum, sWide, sFull, e_0, h_sSum, h_sWide, h_sFull⟩ := (by obtain ⟨fuel, hf⟩ := h_0; exact open23 hf hz_0 : ∃ sSum : Int, ∃ sWide : Int, ∃ sFull : Int, cs_0.toList = [.int .i32 sSum, .int .i32 sWide, .int .i32 sFull] ∧ (Lit.int .i32 sSum).wf = true ∧ (Lit.int .i32 sWide).wf = true ∧ (Lit.int .i32 sFull).wf = true)
  obtain rfl : cs_0 = #[.int .i32 sSum, .int .i32 sWide, .int .i32 sFull] := by cases cs_0; simp_all
  clear e_0
  have hz_1 : Light Try.prog 21 d_1 := light_of hsz0 (j := 1) (by first | rfl | (rw [Try.params4]; rfl)) rfl
  have k_1 := h_1
  have lt_1 : ∀ x ∈ p_1, x.block < W.heap.size := by obtain ⟨m, hm⟩ := k_1; exact DataW.trod_lt m _ _ _ hm
  obtain ⟨a, rfl, rfl, rfl, h_a⟩ := open_int Try.underlying21 (hval 1 21 v_1 rfl rfl) h_1
  have hz_2 : Light Try.prog 21 d_2 := light_of hsz0 (j := 2) (by first | rfl | (rw [Try.params4]; rfl)) rfl
  have k_2 := h_2
  have lt_2 : ∀ x ∈ p_2, x.block < W.heap.size := by obtain ⟨m, hm⟩ := k_2; exact DataW.trod_lt m _ _ _ hm
  obtain ⟨b, rfl, rfl, rfl, h_b⟩ := open_int Try.underlying21 (hval 2 21 v_2 rfl rfl) h_2
  clear hA0 hval0
  refine (walk sSum sWide sFull a b W h_sSum h_sWide h_sFull h_a h_b).mono fun e W' ⟨he, bel⟩ => ?_
  subst he
  exact ⟨_, rfl, _, _, _, [], _, [], hW', trodAll_mk1 (shut_bool Try.underlying4 _), (trodAll_cons_mk (Below.trod laidOut (by kernel_rfl) (of_decide_eq_true (by kernel_rfl)) k_0 bel lt_0) (trodAll_cons_mk (Below.trod laidOut (by kernel_rfl) (of_decide_eq_true (by kernel_rfl)) k_1 bel lt_1) (trodAll_cons_mk (Below.trod laidOut (by kernel_rfl) (of_decide_eq_true (by kernel_rfl)) k_2 bel lt_2) trodAll_mk0))), rfl, bel.frame _, fun h => by cases h⟩

theorem over : Rows.servoSenseRow.holds Try.pinned (OpenSpec.ofChange Rows.servoSenseSpec) :=
  OpenClaim.holds_of_wide 4 Try.f4 rfl rfl rfl rfl rfl rfl rfl ⟨rfl, rfl, rfl, rfl, rfl⟩ rfl rfl rfl rfl rfl (by kernel_rfl) Try.func4 (by kernel_rfl)
    (of_decide_eq_true (by kernel_rfl)) (by unfold Func.isWrapper; first | (rw [if_pos (by decide +kernel)]; kernel_rfl) | (rw [if_neg (by decide +kernel)]; exact ⟨rfl, rfl⟩))
    (fun os started H enc _ => lifted os started H enc)


end Go.Proofs.Ytbpenfjnfoljoaa.servoSense
namespace Go.Proofs.Ytbpenfjnfoljoaa
/-- THE STATEMENT -/
theorem servoSense_holds : Rows.ServoSenseSaid := servoSense.over
#print axioms servoSense_holds
end Go.Proofs.Ytbpenfjnfoljoaa
