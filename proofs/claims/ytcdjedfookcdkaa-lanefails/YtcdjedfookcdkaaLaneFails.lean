/-
  Whatever is handed in, the law LaneFails returns true: a lane that failed is neither active nor on standby until it is reset. No condition.
-/
import Derived.Test.YtcdjedfookcdkaaLanAll
import Derived.Test.YtcdjedfookcdkaaBxs
import Derived.Test.YtcdjedfookcdkaaOpenZ
import Derived.ProofKit
namespace Go.Proofs.Ytcdjedfookcdkaa.laneFails
open Go.ChangeShapes Go.WideShapes Go.ChangeAt Go.RowKit
set_option linter.unusedVariables false

theorem own : ownKnob Try.prog.godebug = none := by kernel_rfl
theorem laidOut : laidOutB Try.prog = true := by kernel_rfl


def f2 (j : Nat) : Int := if j = 0 then 1 else 3
theorem first_all (b : Nat) (W : World) (h0 : W.cell? ⟨b, 0, none⟩ = some (.int .i64 1)) (h1 : W.cell? ⟨b, 1, none⟩ = some (.int .i64 3)) (hb : b < W.heap.size) :
    Calls Try.prog 8 #[.agg #[.int .i64 0, .bool false, .int .i64 0], .slice (some ⟨b, 0, none⟩) 2 2] W fun r w' => r = .returned (.tuple #[.agg #[.int .i64 2, .bool true, .int .i64 0], .int .i64 2, .int .i64 0]) ∧ Below W.heap.size W w' := by
  refine all_ok 0 false 0 (some ⟨b, 0, none⟩) 2 2 2 f2 0 2 true 0 W (by decide) (by omega) (fun _ => ⟨b, 0, rfl, hb, fun j hj => ?_⟩) (fun j hj => ?_) (Or.inl ⟨rfl, rfl⟩) (by decide)
  · have : j = 0 ∨ j = 1 := by omega
    rcases this with rfl | rfl
    · exact h0
    · exact h1
  · have : j = 0 ∨ j = 1 := by omega
    rcases this with rfl | rfl <;> decide

theorem nB_cases (b : Bool) (e : Int) : (e = 3 ∧ nB b e = true) ∨ (¬ e = 3 ∧ e = 7 ∧ nB b e = false) ∨ (¬ e = 3 ∧ ¬ e = 7 ∧ nB b e = b) := by
  unfold nB
  split
  · rename_i h
    exact Or.inl ⟨h, rfl⟩
  · rename_i h
    split
    · rename_i h2
      exact Or.inr (Or.inl ⟨h, h2, rfl⟩)
    · rename_i h2
      exact Or.inr (Or.inr ⟨h, h2, rfl⟩)
theorem bxs_one {w W : World} {p q : Nat × List Value} (h : Bxs w [p, q] W) : Bxs w [p] W := by
  have k : ∀ (i : Nat) (x : Nat × List Value), [p][i]? = some x → [p, q][i]? = some x := fun i x hi => by
    cases i with
    | zero => exact hi
    | succ i => simp at hi
  exact ⟨h.bel, fun i b vs hi => h.box i b vs (k i _ hi), fun i b vs hi => h.own i b vs (k i _ hi), fun i j b c vs us hi hj => h.nd i j b c vs us (k i _ hi) (k j _ hj)⟩

set_option maxHeartbeats 16000000 in
set_option maxRecDepth 100000 in
theorem walk (eventsa : Option Addr) (eventsn eventsc : Nat) (events : Nat → Int) (w : World) (h_events : RowZ .i64 8 w eventsa eventsn eventsc events) :
    Calls Try.prog 4 #[.slice eventsa eventsn eventsc] w fun e w' => e = .returned (.bool true) ∧ Below w.heap.size w w' := by
  have HL : Hid (_) := h_events.1.2.2.2
  have hk : eventsn ≤ 17592186043904 := by have := h_events.2.1; omega
  clear h_events
  go_enter Try.func4, Try.ntmps4
  go_wp2_with fail
  refine (first_all _ _ (by go_simp) (by go_simp) (by simp)).mono ?_
  rintro r w1 ⟨rfl, hb⟩
  have B1 : Hid (_) := ((bxs_nil w).alloc _).step hb
  clear hb
  go_wp2_with fail
  obtain ⟨N, W6, hW6, hN6, B6', Z6⟩ := (B1.out.alloc (.cells #[.int .i64 2, .bool true, .int .i64 0] 23)).new #[.int .i64 0, .bool false, .int .i64 0] 23
  rw [lay_size] at hN6
  rw [hW6, hN6]
  have B6 : Hid (_) := B6'
  clear hW6 hN6 B6' B1 Z6
  go_loopg [7, 34] (eventsn + 1) (fun g v t wr => ∃ (j : Nat) (m : Int) (b : Bool) (n : Int), v = .bool b ∧ t = .int .i64 j ∧ eventsn - j < g ∧ j ≤ eventsn ∧ Hid (lE m b n = 0) ∧ Hid (Bxs w [(N, [.int .i64 m, .bool b, .int .i64 n])] wr))
  case atStart => exact ⟨0, 0, false, 0, rfl, rfl, by omega, by omega, (by decide : lE 0 false 0 = 0), B6.out⟩
  case round =>
    obtain ⟨j, m, b, n, rfl, rfl, hg, hj, HE, HB⟩ := hrel
    clear B6
    by_cases hlt : j < eventsn
    · have z1 : (j : Int) < (eventsn : Int) := by omega
      obtain ⟨b0, off, rfl, hbl, hcell⟩ := HL.out (by omega)
      have x0 := (HB.out.bel.cell (p := ⟨b0, off + j, none⟩) hbl).trans (hcell j hlt)
      clear hcell
      have p0 := (HB.out.box 0 _ _ rfl).cell 0 _ rfl
      have p1 := (HB.out.box 0 _ _ rfl).cell 1 _ rfl
      have p2 := (HB.out.box 0 _ _ rfl).cell 2 _ rfl
      have pl := (HB.out.box 0 _ _ rfl).lt
      generalize events j = e at *
      by_cases he : 1 ≤ e ∧ e ≤ 7
      · have CN : Hid (_) := fun W => next_ok m b n e W HE.out he.1 he.2
        have HE2 : Hid (_) := lE_next HE.out he.1 he.2
        have hb' : (e = 3 ∧ nB b e = true) ∨ (¬ e = 3 ∧ e = 7 ∧ nB b e = false) ∨ (¬ e = 3 ∧ ¬ e = 7 ∧ nB b e = b) := nB_cases b e
        generalize nF m (nM m b e) n = F' at *
        generalize nM m b e = M' at *
        generalize nB b e = b' at *
        clear he
        go_wp2_with fail
        refine (CN.out _).mono ?_
        rintro r w3 ⟨rfl, hb⟩
        have HB2 : Hid (_) := HB.out.step hb
        clear hb p0 p1 p2 pl x0 CN HB
        have CK : Hid (_) := fun W => lcheck_any M' b' F' W
        rw [HE2.out] at CK
        have hM : Hid (b' = true → ¬ M' < 2) := fun q h => (lE_ok HE2.out).2.2 (Or.inl ⟨q, h⟩)
        rcases hb' with ⟨rfl, rfl⟩ | ⟨h3, rfl, rfl⟩ | ⟨h3, h7, rfl⟩
        · have k := hM.out rfl
          clear hM
          go_wp2_with fail
          obtain ⟨N2, W7, hW7, hN7, B7', Z7⟩ := HB2.out.new #[.int .i64 M', .bool true, .int .i64 F'] 23
          rw [hW7, hN7]
          have B7 : Hid (_) := B7'
          clear hW7 hN7 B7'
          refine (CK.out _).mono ?_
          rintro r w8 ⟨rfl, hb⟩
          have B8 : Hid (_) := B7.out.step hb
          clear hb B7 Z7 CK
          have q0 := (B8.out.box 1 _ _ rfl).cell 0 _ rfl
          have q1 := (B8.out.box 1 _ _ rfl).cell 1 _ rfl
          have q2 := (B8.out.box 1 _ _ rfl).cell 2 _ rfl
          have ql := (B8.out.box 1 _ _ rfl).lt
          have p0 := (B8.out.box 0 _ _ rfl).cell 0 _ rfl
          have p1 := (B8.out.box 0 _ _ rfl).cell 1 _ rfl
          have p2 := (B8.out.box 0 _ _ rfl).cell 2 _ rfl
          have f0 := (B8.out.box 0 _ _ rfl).froz 0 _ rfl
          have f1 := (B8.out.box 0 _ _ rfl).froz 1 _ rfl
          have f2 := (B8.out.box 0 _ _ rfl).froz 2 _ rfl
          have pl := (B8.out.box 0 _ _ rfl).lt
          go_wp2_with fail
          obtain ⟨w9, hw9, B9⟩ := B8.out.put3 0 N (.int .i64 M') (.bool true) (.int .i64 F') rfl
          rw [hw9]
          have B9' : Hid (_) := bxs_one B9
          clear hw9 B9
          go_roundg (eventsn - (j + 1) + 1)
          case measure => omega
          case rel => exact ⟨j + 1, M', true, F', rfl, by go_num, by omega, by omega, HE2.out, B9'.out⟩
        · clear hM
          cases b
          · go_wp2_with fail
            obtain ⟨N2, W7, hW7, hN7, B7', Z7⟩ := HB2.out.new #[.int .i64 M', .bool false, .int .i64 F'] 23
            rw [hW7, hN7]
            have B7 : Hid (_) := B7'
            clear hW7 hN7 B7'
            refine (CK.out _).mono ?_
            rintro r w8 ⟨rfl, hb⟩
            have B8 : Hid (_) := B7.out.step hb
            clear hb B7 Z7 CK
            have q0 := (B8.out.box 1 _ _ rfl).cell 0 _ rfl
            have q1 := (B8.out.box 1 _ _ rfl).cell 1 _ rfl
            have q2 := (B8.out.box 1 _ _ rfl).cell 2 _ rfl
            have ql := (B8.out.box 1 _ _ rfl).lt
            have p0 := (B8.out.box 0 _ _ rfl).cell 0 _ rfl
            have p1 := (B8.out.box 0 _ _ rfl).cell 1 _ rfl
            have p2 := (B8.out.box 0 _ _ rfl).cell 2 _ rfl
            have f0 := (B8.out.box 0 _ _ rfl).froz 0 _ rfl
            have f1 := (B8.out.box 0 _ _ rfl).froz 1 _ rfl
            have f2 := (B8.out.box 0 _ _ rfl).froz 2 _ rfl
            have pl := (B8.out.box 0 _ _ rfl).lt
            go_wp2_with fail
            obtain ⟨w9, hw9, B9⟩ := B8.out.put3 0 N (.int .i64 M') (.bool false) (.int .i64 F') rfl
            rw [hw9]
            have B9' : Hid (_) := bxs_one B9
            clear hw9 B9
            go_roundg (eventsn - (j + 1) + 1)
            case measure => omega
            case rel => exact ⟨j + 1, M', false, F', rfl, by go_num, by omega, by omega, HE2.out, B9'.out⟩
          · go_wp2_with fail
            obtain ⟨N2, W7, hW7, hN7, B7', Z7⟩ := HB2.out.new #[.int .i64 M', .bool false, .int .i64 F'] 23
            rw [hW7, hN7]
            have B7 : Hid (_) := B7'
            clear hW7 hN7 B7'
            refine (CK.out _).mono ?_
            rintro r w8 ⟨rfl, hb⟩
            have B8 : Hid (_) := B7.out.step hb
            clear hb B7 Z7 CK
            have q0 := (B8.out.box 1 _ _ rfl).cell 0 _ rfl
            have q1 := (B8.out.box 1 _ _ rfl).cell 1 _ rfl
            have q2 := (B8.out.box 1 _ _ rfl).cell 2 _ rfl
            have ql := (B8.out.box 1 _ _ rfl).lt
            have p0 := (B8.out.box 0 _ _ rfl).cell 0 _ rfl
            have p1 := (B8.out.box 0 _ _ rfl).cell 1 _ rfl
            have p2 := (B8.out.box 0 _ _ rfl).cell 2 _ rfl
            have f0 := (B8.out.box 0 _ _ rfl).froz 0 _ rfl
            have f1 := (B8.out.box 0 _ _ rfl).froz 1 _ rfl
            have f2 := (B8.out.box 0 _ _ rfl).froz 2 _ rfl
            have pl := (B8.out.box 0 _ _ rfl).lt
            go_wp2_with fail
            obtain ⟨w9, hw9, B9⟩ := B8.out.put3 0 N (.int .i64 M') (.bool false) (.int .i64 F') rfl
            rw [hw9]
            have B9' : Hid (_) := bxs_one B9
            clear hw9 B9
            go_roundg (eventsn - (j + 1) + 1)
            case measure => omega
            case rel => exact ⟨j + 1, M', false, F', rfl, by go_num, by omega, by omega, HE2.out, B9'.out⟩
        · have g3 : (e == 3) = false := by simpa using h3
          have g7 : (e != 7) = true := by simpa using h7
          cases b'
          · clear hM
            go_wp2_with fail
            obtain ⟨N2, W7, hW7, hN7, B7', Z7⟩ := HB2.out.new #[.int .i64 M', .bool false, .int .i64 F'] 23
            rw [hW7, hN7]
            have B7 : Hid (_) := B7'
            clear hW7 hN7 B7'
            refine (CK.out _).mono ?_
            rintro r w8 ⟨rfl, hb⟩
            have B8 : Hid (_) := B7.out.step hb
            clear hb B7 Z7 CK
            have q0 := (B8.out.box 1 _ _ rfl).cell 0 _ rfl
            have q1 := (B8.out.box 1 _ _ rfl).cell 1 _ rfl
            have q2 := (B8.out.box 1 _ _ rfl).cell 2 _ rfl
            have ql := (B8.out.box 1 _ _ rfl).lt
            have p0 := (B8.out.box 0 _ _ rfl).cell 0 _ rfl
            have p1 := (B8.out.box 0 _ _ rfl).cell 1 _ rfl
            have p2 := (B8.out.box 0 _ _ rfl).cell 2 _ rfl
            have f0 := (B8.out.box 0 _ _ rfl).froz 0 _ rfl
            have f1 := (B8.out.box 0 _ _ rfl).froz 1 _ rfl
            have f2 := (B8.out.box 0 _ _ rfl).froz 2 _ rfl
            have pl := (B8.out.box 0 _ _ rfl).lt
            go_wp2_with fail
            obtain ⟨w9, hw9, B9⟩ := B8.out.put3 0 N (.int .i64 M') (.bool false) (.int .i64 F') rfl
            rw [hw9]
            have B9' : Hid (_) := bxs_one B9
            clear hw9 B9
            go_roundg (eventsn - (j + 1) + 1)
            case measure => omega
            case rel => exact ⟨j + 1, M', false, F', rfl, by go_num, by omega, by omega, HE2.out, B9'.out⟩
          · have k := hM.out rfl
            clear hM
            go_wp2_with fail
            obtain ⟨N2, W7, hW7, hN7, B7', Z7⟩ := HB2.out.new #[.int .i64 M', .bool true, .int .i64 F'] 23
            rw [hW7, hN7]
            have B7 : Hid (_) := B7'
            clear hW7 hN7 B7'
            refine (CK.out _).mono ?_
            rintro r w8 ⟨rfl, hb⟩
            have B8 : Hid (_) := B7.out.step hb
            clear hb B7 Z7 CK
            have q0 := (B8.out.box 1 _ _ rfl).cell 0 _ rfl
            have q1 := (B8.out.box 1 _ _ rfl).cell 1 _ rfl
            have q2 := (B8.out.box 1 _ _ rfl).cell 2 _ rfl
            have ql := (B8.out.box 1 _ _ rfl).lt
            have p0 := (B8.out.box 0 _ _ rfl).cell 0 _ rfl
            have p1 := (B8.out.box 0 _ _ rfl).cell 1 _ rfl
            have p2 := (B8.out.box 0 _ _ rfl).cell 2 _ rfl
            have f0 := (B8.out.box 0 _ _ rfl).froz 0 _ rfl
            have f1 := (B8.out.box 0 _ _ rfl).froz 1 _ rfl
            have f2 := (B8.out.box 0 _ _ rfl).froz 2 _ rfl
            have pl := (B8.out.box 0 _ _ rfl).lt
            go_wp2_with fail
            obtain ⟨w9, hw9, B9⟩ := B8.out.put3 0 N (.int .i64 M') (.bool true) (.int .i64 F') rfl
            rw [hw9]
            have B9' : Hid (_) := bxs_one B9
            clear hw9 B9
            go_roundg (eventsn - (j + 1) + 1)
            case measure => omega
            case rel => exact ⟨j + 1, M', true, F', rfl, by go_num, by omega, by omega, HE2.out, B9'.out⟩
      · have CN : Hid (_) := fun W => next_arg m b n e W HE.out (by omega)
        clear he
        go_wp2_with fail
        refine (CN.out _).mono ?_
        rintro r w3 ⟨rfl, hb⟩
        have HB2 : Hid (_) := HB.out.step hb
        clear hb p0 p1 p2 pl x0 CN HB
        go_wp2_with fail
        go_roundg (eventsn - (j + 1) + 1)
        case measure => omega
        case rel => exact ⟨j + 1, m, b, n, rfl, by go_num, by omega, by omega, HE.out, HB2.out.alloc _⟩
    · have z1 : ¬ (j : Int) < (eventsn : Int) := by omega
      go_wp2_with fail
      go_ret
      exact ⟨rfl, HB.out.bel⟩

/-! ### THE ROW's STEP -/
set_option maxRecDepth 100000 in
theorem lifted (os : Os) (started : os.Started) (H : Type) (enc : TypeId × Value → H) :
    ReturnsInHanded {} Try.checked os 4 .any (Rows.laneFailsSpec.pre6 enc Try.prog Try.f4 Rows.laneFailsRow.domain false) (Rows.laneFailsSpec.post enc Try.prog Try.f4 false true false false) := by
  refine returnsInHanded_of_change_sized (C := Try.checked) own started (by kernel_rfl) Try.func4
    (ChangeSpec.witness6 (enc := enc) (C := Try.checked) false ⟨#[], #[.slice none 0 0], []⟩ 8 (by kernel_rfl) (by kernel_rfl) (by kernel_rfl) (by kernel_rfl)) ?_
  intro W base args ds gs before hval0 hW hcnd hsz0 _
  have hval : ∀ (j : Nat) t v, Try.f4.params[j]? = some t → args[j]? = some v → Value.okWide Try.prog W .any base t v := hval0
  have hW' := hW
  obtain ⟨p, q, hA0, hV, rfl, hfz, hnd⟩ := hW
  have hA : DataW.TrodAll enc Try.prog W 0 (fun _ => true) true Try.f4.params.toList args.toList ds p := hA0
  rw [Try.params4] at hA hval
  obtain ⟨v_0, vs_0, d_0, ds_0, p_0, q_0, hargs, rfl, rfl, h_0, r_0⟩ := trodAll_cons hA
  obtain ⟨rfl, rfl, rfl⟩ := trodAll_nil r_0
  obtain rfl : args = #[v_0] := by cases args; simp_all
  obtain ⟨rfl, rfl⟩ := trodVars_none hV
  have hz_0 : Light Try.prog 24 d_0 := light_of hsz0 (j := 0) (by first | rfl | (rw [Try.params4]; rfl)) rfl
  have k_0 := h_0
  have lt_0 : ∀ x ∈ p_0, x.block < W.heap.size := by obtain ⟨m, hm⟩ := k_0; exact DataW.trod_lt m _ _ _ hm
  obtain ⟨eventsa, eventsn, eventsc, rfl⟩ := okWide_slice Try.underlying24 (hval 0 24 v_0 rfl rfl)
  obtain ⟨events, h_events⟩ : ∃ l, RowZ .i64 8 W eventsa eventsn eventsc l := by
    obtain ⟨fuel, hf⟩ := h_0
    obtain ⟨a, m, c, l, hcs, hr⟩ := rowZ_of Try.underlying24 Try.underlying3 (by kernel_rfl) (by kernel_rfl) hf hz_0
    simp [Value.cells] at hcs
    obtain ⟨rfl, rfl, rfl⟩ := hcs
    exact ⟨l, hr⟩
  clear hA0 hval0
  refine (walk eventsa eventsn eventsc events W h_events).mono fun e W' ⟨he, bel⟩ => ?_
  subst he
  exact ⟨_, rfl, _, _, _, [], _, [], hW', trodAll_mk1 (shut_bool Try.underlying4 _), (trodAll_cons_mk (Below.trod laidOut (by kernel_rfl) (of_decide_eq_true (by kernel_rfl)) k_0 bel lt_0) trodAll_mk0), rfl, bel.frame _, fun h => by cases h⟩

theorem over : Rows.laneFailsRow.holds Try.pinned (OpenSpec.ofChange Rows.laneFailsSpec) :=
  OpenClaim.holds_of_wide 4 Try.f4 rfl rfl rfl rfl rfl rfl rfl ⟨rfl, rfl, rfl, rfl, rfl⟩ rfl rfl rfl rfl rfl (by kernel_rfl) Try.func4 (by kernel_rfl)
    (of_decide_eq_true (by kernel_rfl)) (by unfold Func.isWrapper; first | (rw [if_pos (by decide +kernel)]; kernel_rfl) | (rw [if_neg (by decide +kernel)]; exact ⟨rfl, rfl⟩))
    (fun os started H enc _ => lifted os started H enc)


end Go.Proofs.Ytcdjedfookcdkaa.laneFails
namespace Go.Proofs.Ytcdjedfookcdkaa
/-- THE STATEMENT -/
theorem laneFails_holds : Rows.LaneFailsSaid := laneFails.over
#print axioms laneFails_holds
end Go.Proofs.Ytcdjedfookcdkaa
