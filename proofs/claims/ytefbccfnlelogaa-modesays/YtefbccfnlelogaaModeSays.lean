/-
  Whatever is handed in, the law ModeSays returns true: all calls of package mode answer what the document says. No condition.
-/
import Derived.Test.YtefbccfnlelogaaRMde
import Derived.Test.YtefbccfnlelogaaBxs
import Derived.Test.YtefbccfnlelogaaOpenZ
import Derived.Laws.StructEq
import Derived.ProofKit
namespace Go.Proofs.Ytefbccfnlelogaa.modeSays
open Go.ChangeShapes Go.WideShapes Go.ChangeAt Go.RowKit
set_option linter.unusedVariables false

theorem own : ownKnob Try.prog.godebug = none := by kernel_rfl
theorem laidOut : laidOutB Try.prog = true := by kernel_rfl

theorem list3 {l : List Value} (h : l.length = 3) : ∃ c0 c1 c2, l = [c0, c1, c2] := by
  match l, h with
  | [c0, c1, c2], _ => exact ⟨c0, c1, c2, rfl⟩

theorem open23 {H : Type} {enc : TypeId × Value → H} {w : World} {base : Nat} {spare : Nat → Bool} {held : Bool} {fuel : Nat} {cs : List Value} {x : DataW H × List MemPlace} (h : DataW.trod enc Try.prog w base spare held fuel 23 cs = some x) (hz : Light Try.prog 23 x.1) :
    ∃ vMode : Int, ∃ vPassed : Bool, ∃ vGround : Bool, cs = [.int .i64 vMode, .bool vPassed, .bool vGround] ∧ (Lit.int .i64 vMode).wf = true := by
  obtain ⟨hl, hf⟩ := trod_field_z Try.underlying23 h hz
  rw [show Try.prog.cellsOf 23 = 3 from by kernel_rfl] at hl
  obtain ⟨c0, c1, c2, rfl⟩ := list3 hl
  obtain ⟨n0, y0, h0, z0⟩ := hf 0 _ rfl
  replace h0 : DataW.trod enc Try.prog w base spare held n0 3 (([c0, c1, c2] : List Value).drop 0 |>.take (Try.prog.cellsOf 3)) = some y0 := h0
  rw [show Try.prog.cellsOf 3 = 1 from by kernel_rfl] at h0
  replace h0 : DataW.trod enc Try.prog w base spare held n0 3 [c0] = some y0 := h0
  obtain ⟨n1, y1, h1, z1⟩ := hf 1 _ rfl
  replace h1 : DataW.trod enc Try.prog w base spare held n1 4 (([c0, c1, c2] : List Value).drop 1 |>.take (Try.prog.cellsOf 4)) = some y1 := h1
  rw [show Try.prog.cellsOf 4 = 1 from by kernel_rfl] at h1
  replace h1 : DataW.trod enc Try.prog w base spare held n1 4 [c1] = some y1 := h1
  obtain ⟨n2, y2, h2, z2⟩ := hf 2 _ rfl
  replace h2 : DataW.trod enc Try.prog w base spare held n2 4 (([c0, c1, c2] : List Value).drop 2 |>.take (Try.prog.cellsOf 4)) = some y2 := h2
  rw [show Try.prog.cellsOf 4 = 1 from by kernel_rfl] at h2
  replace h2 : DataW.trod enc Try.prog w base spare held n2 4 [c2] = some y2 := h2
  obtain ⟨x0, e0, _, f0_0⟩ := DataW.trod_int Try.underlying3 h0
  simp only [List.cons.injEq, and_true] at e0
  obtain rfl := e0
  obtain ⟨x1, e1, _⟩ := DataW.trod_bool Try.underlying4 h1
  simp only [List.cons.injEq, and_true] at e1
  obtain rfl := e1
  obtain ⟨x2, e2, _⟩ := DataW.trod_bool Try.underlying4 h2
  simp only [List.cons.injEq, and_true] at e2
  obtain rfl := e2
  exact ⟨x0, x1, x2, rfl, f0_0⟩


theorem newTwo {w : World} {L : List (Nat × List Value)} {W : World} (h : Bxs w L W) (vs us : Array Value) (t u : TypeId) : ∃ N W', (W.alloc (.cells vs t)).alloc (.cells us u) = W' ∧ W.heap.size = N ∧ Bxs w ((L ++ [(N, vs.toList)]) ++ [(N + 1, us.toList)]) W' := by
  have k := (h.push vs t).push us u
  simp only [lay_size] at k
  exact ⟨_, _, rfl, rfl, k⟩
theorem ask_both (m : Int) (p g : Bool) (x : Int) : ∃ (M : Int) (P G : Bool) (e : Int), (∀ W, Calls Try.prog 6 #[.agg #[.int .i64 m, .bool p, .bool g], .int .i64 x] W fun r w' => r = .returned (.tuple #[.agg #[.int .i64 M, .bool P, .bool G], .int .i64 e]) ∧ Below W.heap.size W w') ∧ (∀ W, Calls Try.prog 7 #[.agg #[.int .i64 m, .bool p, .bool g], .int .i64 x] W fun r w' => r = .returned (.tuple #[.agg #[.int .i64 M, .bool P, .bool G], .int .i64 e]) ∧ Below W.heap.size W w') := by
  rcases mE_cases m p g with h | h | h
  · exact ⟨0, false, false, 1, fun W => ask_bad m p g x 1 W h (Or.inl rfl), fun W => rask_bad m p g x 1 W h (Or.inl rfl)⟩
  · exact ⟨0, false, false, 4, fun W => ask_bad m p g x 4 W h (Or.inr rfl), fun W => rask_bad m p g x 4 W h (Or.inr rfl)⟩
  · by_cases hx : x < 1 ∨ 3 < x
    · exact ⟨0, false, false, 1, fun W => ask_arg m p g x W h hx, fun W => rask_arg m p g x W h (by omega)⟩
    · by_cases hm : x = m
      · subst hm
        exact ⟨x, p, g, 0, fun W => ask_same x p g W h (by omega) (by omega), fun W => rask_same x p g W h (by omega) (by omega)⟩
      · have h3 : x = 1 ∨ x = 2 ∨ x = 3 := by omega
        cases hb : mayM m p g x
        · refine ⟨0, false, false, 8, fun W => ask_no m p g x W h (by omega) (by omega) hm hb, fun W => rask_no m p g x W h ⟨hm, ?_⟩⟩
          unfold mayM at hb
          rcases h3 with rfl | rfl | rfl
          · exact Or.inr (Or.inl ⟨rfl, by simpa using hb⟩)
          · refine Or.inl ⟨rfl, ?_⟩
            by_cases q : m = 1
            · exact Or.inr ⟨q, by simpa [q] using hb⟩
            · exact Or.inl q
          · exact Or.inr (Or.inr ⟨rfl, by simpa using hb⟩)
        · refine ⟨x, p && decide (¬ x = 3), g, 0, fun W => ask_ok m p g x W h (by omega) (by omega) hm hb, fun W => rask_ok m p g x _ W h ⟨hm, ?_⟩⟩
          unfold mayM at hb
          rcases h3 with rfl | rfl | rfl
          · exact Or.inr (Or.inl ⟨rfl, by simpa using hb, by simp⟩)
          · simp only [if_true, Bool.and_eq_true, decide_eq_true_eq] at hb
            exact Or.inl ⟨rfl, hb.1, hb.2, by simp [hb.2]⟩
          · exact Or.inr (Or.inr ⟨rfl, by simpa using hb, by simp⟩)
theorem tested_both (m : Int) (p g on : Bool) : ∃ (M : Int) (P G : Bool) (e : Int), (∀ W, Calls Try.prog 9 #[.agg #[.int .i64 m, .bool p, .bool g], .bool on] W fun r w' => r = .returned (.tuple #[.agg #[.int .i64 M, .bool P, .bool G], .int .i64 e]) ∧ Below W.heap.size W w') ∧ (∀ W, Calls Try.prog 10 #[.agg #[.int .i64 m, .bool p, .bool g], .bool on] W fun r w' => r = .returned (.tuple #[.agg #[.int .i64 M, .bool P, .bool G], .int .i64 e]) ∧ Below W.heap.size W w') := by
  rcases mE_cases m p g with h | h | h
  · exact ⟨0, false, false, 1, fun W => tested_bad m p g on 1 W h (Or.inl rfl), fun W => rtested_bad m p g on 1 W h (Or.inl rfl)⟩
  · exact ⟨0, false, false, 4, fun W => tested_bad m p g on 4 W h (Or.inr rfl), fun W => rtested_bad m p g on 4 W h (Or.inr rfl)⟩
  · by_cases q : m = 1
    · subst q
      cases g
      · exact ⟨0, false, false, 8, fun W => tested_no 1 p false on W h (Or.inr ⟨rfl, rfl⟩), fun W => rtested_no 1 p false on W h (Or.inr ⟨rfl, rfl⟩)⟩
      · exact ⟨1, on, true, 0, fun W => tested_ok p on W h, fun W => rtested_ok p on W h⟩
    · exact ⟨0, false, false, 8, fun W => tested_no m p g on W h (Or.inl q), fun W => rtested_no m p g on W h (Or.inl q)⟩

set_option maxHeartbeats 16000000 in
set_option maxRecDepth 100000 in
theorem walk_bad (m : Int) (p g : Bool) (x : Int) (on : Bool) (E M : Int) (P G : Bool) (e : Int) (M2 : Int) (P2 G2 : Bool) (e2 : Int) (w : World) (h : mE m p g = E) (hE : E = 1 ∨ E = 4)
    (CA : Hid (∀ W, Calls Try.prog 6 #[.agg #[.int .i64 m, .bool p, .bool g], .int .i64 x] W fun r w' => r = .returned (.tuple #[.agg #[.int .i64 M, .bool P, .bool G], .int .i64 e]) ∧ Below W.heap.size W w'))
    (RA : Hid (∀ W, Calls Try.prog 7 #[.agg #[.int .i64 m, .bool p, .bool g], .int .i64 x] W fun r w' => r = .returned (.tuple #[.agg #[.int .i64 M, .bool P, .bool G], .int .i64 e]) ∧ Below W.heap.size W w'))
    (CT : Hid (∀ W, Calls Try.prog 9 #[.agg #[.int .i64 m, .bool p, .bool g], .bool on] W fun r w' => r = .returned (.tuple #[.agg #[.int .i64 M2, .bool P2, .bool G2], .int .i64 e2]) ∧ Below W.heap.size W w'))
    (RT : Hid (∀ W, Calls Try.prog 10 #[.agg #[.int .i64 m, .bool p, .bool g], .bool on] W fun r w' => r = .returned (.tuple #[.agg #[.int .i64 M2, .bool P2, .bool G2], .int .i64 e2]) ∧ Below W.heap.size W w')) :
    Calls Try.prog 3 #[.agg #[.int .i64 m, .bool p, .bool g], .int .i64 x, .bool on] w fun e w' => e = .returned (.bool true) ∧ Below w.heap.size w w' := by
  have CR : Hid (_) := fun W => rmodeErr_any m p g W
  have CK : Hid (_) := fun W => mcheck_any m p g W
  have CG : Hid (_) := fun W => ground_bad m p g on E W h hE
  rw [h] at CR CK
  obtain ⟨N0, W0, hW0, hN0, B0', Z0'⟩ := (bxs_nil w).new #[.int .i64 m, .bool p, .bool g] 23
  have HW : Hid (_) := hW0
  have HN : Hid (_) := hN0
  have B0 : Hid (_) := B0'
  clear hW0 hN0 B0' Z0' h
  go_enter Try.func3, Try.ntmps3
  go_wp2_with fail
  rw [HW.out, HN.out]
  clear HW HN
  refine (CR.out _).mono ?_
  rintro r w1 ⟨rfl, hb⟩
  have B1 : Hid (_) := B0.out.step hb
  clear hb B0 CR
  have pl := (B1.out.box 0 _ _ rfl).lt
  have p0 := (B1.out.box 0 _ _ rfl).cell 0 _ rfl
  have p1 := (B1.out.box 0 _ _ rfl).cell 1 _ rfl
  have p2 := (B1.out.box 0 _ _ rfl).cell 2 _ rfl
  go_wp2_with fail
  clear pl p0 p1 p2
  refine (CA.out _).mono ?_
  rintro r w2 ⟨rfl, hb⟩
  have B2 : Hid (_) := B1.out.step hb
  clear hb B1 CA
  have pl := (B2.out.box 0 _ _ rfl).lt
  have p0 := (B2.out.box 0 _ _ rfl).cell 0 _ rfl
  have p1 := (B2.out.box 0 _ _ rfl).cell 1 _ rfl
  have p2 := (B2.out.box 0 _ _ rfl).cell 2 _ rfl
  go_wp2_with fail
  obtain ⟨N3, V3, hV3, hN3, B3', Z3⟩ := B2.out.new #[.int .i64 M, .bool P, .bool G] 23
  rw [hV3, hN3]
  have B3 : Hid (_) := B3'
  clear hV3 hN3 B3' B2 Z3
  clear pl p0 p1 p2
  refine (RA.out _).mono ?_
  rintro r w4 ⟨rfl, hb⟩
  have B4 : Hid (_) := B3.out.step hb
  clear hb B3 RA
  have pl := (B4.out.box 0 _ _ rfl).lt
  have p0 := (B4.out.box 0 _ _ rfl).cell 0 _ rfl
  have p1 := (B4.out.box 0 _ _ rfl).cell 1 _ rfl
  have p2 := (B4.out.box 0 _ _ rfl).cell 2 _ rfl
  go_wp2_with fail
  obtain ⟨N5, V5, hV5, hN5, B5', Z5⟩ := B4.out.new #[.int .i64 M, .bool P, .bool G] 23
  rw [hV5, hN5]
  have B5 : Hid (_) := B5'
  clear hV5 hN5 B5' B4 Z5
  clear pl p0 p1 p2
  refine (CG.out _).mono ?_
  rintro r w6 ⟨rfl, hb⟩
  have B6 : Hid (_) := B5.out.step hb
  clear hb B5 CG
  have pl := (B6.out.box 0 _ _ rfl).lt
  have p0 := (B6.out.box 0 _ _ rfl).cell 0 _ rfl
  have p1 := (B6.out.box 0 _ _ rfl).cell 1 _ rfl
  have p2 := (B6.out.box 0 _ _ rfl).cell 2 _ rfl
  go_wp2_with fail
  obtain ⟨N7, V7, hV7, hN7, B7', Z7⟩ := B6.out.new #[.int .i64 0, .bool false, .bool false] 23
  rw [hV7, hN7]
  have B7 : Hid (_) := B7'
  clear hV7 hN7 B7' B6 Z7
  clear pl p0 p1 p2
  refine (CT.out _).mono ?_
  rintro r w8 ⟨rfl, hb⟩
  have B8 : Hid (_) := B7.out.step hb
  clear hb B7 CT
  have pl := (B8.out.box 0 _ _ rfl).lt
  have p0 := (B8.out.box 0 _ _ rfl).cell 0 _ rfl
  have p1 := (B8.out.box 0 _ _ rfl).cell 1 _ rfl
  have p2 := (B8.out.box 0 _ _ rfl).cell 2 _ rfl
  go_wp2_with fail
  obtain ⟨N9, V9, hV9, hN9, B9', Z9⟩ := B8.out.new #[.int .i64 M2, .bool P2, .bool G2] 23
  rw [hV9, hN9]
  have B9 : Hid (_) := B9'
  clear hV9 hN9 B9' B8 Z9
  clear pl p0 p1 p2
  refine (RT.out _).mono ?_
  rintro r w10 ⟨rfl, hb⟩
  have B10 : Hid (_) := B9.out.step hb
  clear hb B9 RT
  have pl := (B10.out.box 0 _ _ rfl).lt
  have p0 := (B10.out.box 0 _ _ rfl).cell 0 _ rfl
  have p1 := (B10.out.box 0 _ _ rfl).cell 1 _ rfl
  have p2 := (B10.out.box 0 _ _ rfl).cell 2 _ rfl
  rcases hE with rfl | rfl
  all_goals
    go_wp2_with fail
    obtain ⟨N12, V12, hV12, hN12, B12'⟩ := newTwo B10.out #[.int .i64 M2, .bool P2, .bool G2] #[.int .i64 0, .bool false, .bool false] 23 23
    rw [hV12, hN12]
    have B12 : Hid (_) := B12'
    clear hV12 hN12 B12' B10
    clear pl p0 p1 p2
    refine (CK.out _).mono ?_
    rintro r w13 ⟨rfl, hb⟩
    have B13 : Hid (_) := B12.out.step hb
    clear hb B12 CK
    have al := (B13.out.box 1 _ _ rfl).lt
    have a0 := (B13.out.box 1 _ _ rfl).cell 0 _ rfl
    have a1 := (B13.out.box 1 _ _ rfl).cell 1 _ rfl
    have a2 := (B13.out.box 1 _ _ rfl).cell 2 _ rfl
    have bl := (B13.out.box 2 _ _ rfl).lt
    have b0 := (B13.out.box 2 _ _ rfl).cell 0 _ rfl
    have b1 := (B13.out.box 2 _ _ rfl).cell 1 _ rfl
    have b2 := (B13.out.box 2 _ _ rfl).cell 2 _ rfl
    have cl := (B13.out.box 3 _ _ rfl).lt
    have c0 := (B13.out.box 3 _ _ rfl).cell 0 _ rfl
    have c1 := (B13.out.box 3 _ _ rfl).cell 1 _ rfl
    have c2 := (B13.out.box 3 _ _ rfl).cell 2 _ rfl
    have dl := (B13.out.box 4 _ _ rfl).lt
    have d0 := (B13.out.box 4 _ _ rfl).cell 0 _ rfl
    have d1 := (B13.out.box 4 _ _ rfl).cell 1 _ rfl
    have d2 := (B13.out.box 4 _ _ rfl).cell 2 _ rfl
    have fl := (B13.out.box 5 _ _ rfl).lt
    have f0 := (B13.out.box 5 _ _ rfl).cell 0 _ rfl
    have f1 := (B13.out.box 5 _ _ rfl).cell 1 _ rfl
    have f2 := (B13.out.box 5 _ _ rfl).cell 2 _ rfl
    have yl := (B13.out.box 6 _ _ rfl).lt
    have y0 := (B13.out.box 6 _ _ rfl).cell 0 _ rfl
    have y1 := (B13.out.box 6 _ _ rfl).cell 1 _ rfl
    have y2 := (B13.out.box 6 _ _ rfl).cell 2 _ rfl
    go_wp2_with fail
    go_ret
    exact ⟨by simp, B13.out.bel⟩

set_option maxHeartbeats 16000000 in
set_option maxRecDepth 100000 in
theorem walk_ok (m : Int) (p g : Bool) (x : Int) (on : Bool) (M3 M : Int) (P G : Bool) (e : Int) (M2 : Int) (P2 G2 : Bool) (e2 : Int) (w : World) (h : mE m p g = 0) (hM : m = 3 ∧ on = false ∧ M3 = 1 ∨ m = 3 ∧ on = true ∧ M3 = 3 ∨ ¬ m = 3 ∧ M3 = m)
    (CA : Hid (∀ W, Calls Try.prog 6 #[.agg #[.int .i64 m, .bool p, .bool g], .int .i64 x] W fun r w' => r = .returned (.tuple #[.agg #[.int .i64 M, .bool P, .bool G], .int .i64 e]) ∧ Below W.heap.size W w'))
    (RA : Hid (∀ W, Calls Try.prog 7 #[.agg #[.int .i64 m, .bool p, .bool g], .int .i64 x] W fun r w' => r = .returned (.tuple #[.agg #[.int .i64 M, .bool P, .bool G], .int .i64 e]) ∧ Below W.heap.size W w'))
    (CT : Hid (∀ W, Calls Try.prog 9 #[.agg #[.int .i64 m, .bool p, .bool g], .bool on] W fun r w' => r = .returned (.tuple #[.agg #[.int .i64 M2, .bool P2, .bool G2], .int .i64 e2]) ∧ Below W.heap.size W w'))
    (RT : Hid (∀ W, Calls Try.prog 10 #[.agg #[.int .i64 m, .bool p, .bool g], .bool on] W fun r w' => r = .returned (.tuple #[.agg #[.int .i64 M2, .bool P2, .bool G2], .int .i64 e2]) ∧ Below W.heap.size W w')) :
    Calls Try.prog 3 #[.agg #[.int .i64 m, .bool p, .bool g], .int .i64 x, .bool on] w fun e w' => e = .returned (.bool true) ∧ Below w.heap.size w w' := by
  have CR : Hid (_) := fun W => rmodeErr_any m p g W
  have CK : Hid (_) := fun W => mcheck_any m p g W
  have CG : Hid (_) := fun W => ground_ok m p g on M3 W h hM
  have RG : Hid (_) := fun W => ronGround_any m p g on M3 W hM
  rw [h] at CR CK
  obtain ⟨N0, W0, hW0, hN0, B0', Z0'⟩ := (bxs_nil w).new #[.int .i64 m, .bool p, .bool g] 23
  have HW : Hid (_) := hW0
  have HN : Hid (_) := hN0
  have B0 : Hid (_) := B0'
  clear hW0 hN0 B0' Z0' h hM
  go_enter Try.func3, Try.ntmps3
  go_wp2_with fail
  rw [HW.out, HN.out]
  clear HW HN
  refine (CR.out _).mono ?_
  rintro r w1 ⟨rfl, hb⟩
  have B1 : Hid (_) := B0.out.step hb
  clear hb B0 CR
  have pl := (B1.out.box 0 _ _ rfl).lt
  have p0 := (B1.out.box 0 _ _ rfl).cell 0 _ rfl
  have p1 := (B1.out.box 0 _ _ rfl).cell 1 _ rfl
  have p2 := (B1.out.box 0 _ _ rfl).cell 2 _ rfl
  go_wp2_with fail
  clear pl p0 p1 p2
  refine (CA.out _).mono ?_
  rintro r w2 ⟨rfl, hb⟩
  have B2 : Hid (_) := B1.out.step hb
  clear hb B1 CA
  have pl := (B2.out.box 0 _ _ rfl).lt
  have p0 := (B2.out.box 0 _ _ rfl).cell 0 _ rfl
  have p1 := (B2.out.box 0 _ _ rfl).cell 1 _ rfl
  have p2 := (B2.out.box 0 _ _ rfl).cell 2 _ rfl
  go_wp2_with fail
  obtain ⟨N3, V3, hV3, hN3, B3', Z3⟩ := B2.out.new #[.int .i64 M, .bool P, .bool G] 23
  rw [hV3, hN3]
  have B3 : Hid (_) := B3'
  clear hV3 hN3 B3' B2 Z3
  clear pl p0 p1 p2
  refine (RA.out _).mono ?_
  rintro r w4 ⟨rfl, hb⟩
  have B4 : Hid (_) := B3.out.step hb
  clear hb B3 RA
  have pl := (B4.out.box 0 _ _ rfl).lt
  have p0 := (B4.out.box 0 _ _ rfl).cell 0 _ rfl
  have p1 := (B4.out.box 0 _ _ rfl).cell 1 _ rfl
  have p2 := (B4.out.box 0 _ _ rfl).cell 2 _ rfl
  go_wp2_with fail
  obtain ⟨N5, V5, hV5, hN5, B5', Z5⟩ := B4.out.new #[.int .i64 M, .bool P, .bool G] 23
  rw [hV5, hN5]
  have B5 : Hid (_) := B5'
  clear hV5 hN5 B5' B4 Z5
  clear pl p0 p1 p2
  refine (CG.out _).mono ?_
  rintro r w6 ⟨rfl, hb⟩
  have B6 : Hid (_) := B5.out.step hb
  clear hb B5 CG
  have pl := (B6.out.box 0 _ _ rfl).lt
  have p0 := (B6.out.box 0 _ _ rfl).cell 0 _ rfl
  have p1 := (B6.out.box 0 _ _ rfl).cell 1 _ rfl
  have p2 := (B6.out.box 0 _ _ rfl).cell 2 _ rfl
  go_wp2_with fail
  obtain ⟨N7, V7, hV7, hN7, B7', Z7⟩ := B6.out.new #[.int .i64 M3, .bool p, .bool on] 23
  rw [hV7, hN7]
  have B7 : Hid (_) := B7'
  clear hV7 hN7 B7' B6 Z7
  clear pl p0 p1 p2
  refine (CT.out _).mono ?_
  rintro r w8 ⟨rfl, hb⟩
  have B8 : Hid (_) := B7.out.step hb
  clear hb B7 CT
  have pl := (B8.out.box 0 _ _ rfl).lt
  have p0 := (B8.out.box 0 _ _ rfl).cell 0 _ rfl
  have p1 := (B8.out.box 0 _ _ rfl).cell 1 _ rfl
  have p2 := (B8.out.box 0 _ _ rfl).cell 2 _ rfl
  go_wp2_with fail
  obtain ⟨N9, V9, hV9, hN9, B9', Z9⟩ := B8.out.new #[.int .i64 M2, .bool P2, .bool G2] 23
  rw [hV9, hN9]
  have B9 : Hid (_) := B9'
  clear hV9 hN9 B9' B8 Z9
  clear pl p0 p1 p2
  refine (RT.out _).mono ?_
  rintro r w10 ⟨rfl, hb⟩
  have B10 : Hid (_) := B9.out.step hb
  clear hb B9 RT
  have pl := (B10.out.box 0 _ _ rfl).lt
  have p0 := (B10.out.box 0 _ _ rfl).cell 0 _ rfl
  have p1 := (B10.out.box 0 _ _ rfl).cell 1 _ rfl
  have p2 := (B10.out.box 0 _ _ rfl).cell 2 _ rfl
  go_wp2_with fail
  obtain ⟨N12, V12, hV12, hN12, B12'⟩ := newTwo B10.out #[.int .i64 M2, .bool P2, .bool G2] #[.int .i64 0, .bool false, .bool false] 23 23
  rw [hV12, hN12]
  have B12 : Hid (_) := B12'
  clear hV12 hN12 B12' B10
  clear pl p0 p1 p2
  refine (RG.out _).mono ?_
  rintro r w13 ⟨rfl, hb⟩
  have B13 : Hid (_) := B12.out.step hb
  clear hb B12 RG
  have pl := (B13.out.box 0 _ _ rfl).lt
  have p0 := (B13.out.box 0 _ _ rfl).cell 0 _ rfl
  have p1 := (B13.out.box 0 _ _ rfl).cell 1 _ rfl
  have p2 := (B13.out.box 0 _ _ rfl).cell 2 _ rfl
  have yl := (B13.out.box 6 _ _ rfl).lt
  have y0 := (B13.out.box 6 _ _ rfl).cell 0 _ rfl
  have y1 := (B13.out.box 6 _ _ rfl).cell 1 _ rfl
  have y2 := (B13.out.box 6 _ _ rfl).cell 2 _ rfl
  have yf0 := (B13.out.box 6 _ _ rfl).froz 0 _ rfl
  have yf1 := (B13.out.box 6 _ _ rfl).froz 1 _ rfl
  have yf2 := (B13.out.box 6 _ _ rfl).froz 2 _ rfl
  have n06 : ¬ N0 = N12 + 1 := B13.out.nd 0 6 _ _ _ _ rfl rfl (by decide)
  have n60 : ¬ N12 + 1 = N0 := fun q => n06 q.symm
  go_wp2_with fail
  obtain ⟨V, hV, B14'⟩ := B13.out.put3 6 _ (.int .i64 M3) (.bool p) (.bool on) rfl
  rw [hV]
  have B14 : Hid (_) := B14'
  clear hV B14' B13
  clear pl p0 p1 p2
  clear yl y0 y1 y2
  clear yf0 yf1 yf2
  refine (CK.out _).mono ?_
  rintro r w15 ⟨rfl, hb⟩
  have B15 : Hid (_) := B14.out.step hb
  clear hb B14 CK
  have al := (B15.out.box 1 _ _ rfl).lt
  have a0 := (B15.out.box 1 _ _ rfl).cell 0 _ rfl
  have a1 := (B15.out.box 1 _ _ rfl).cell 1 _ rfl
  have a2 := (B15.out.box 1 _ _ rfl).cell 2 _ rfl
  have bl := (B15.out.box 2 _ _ rfl).lt
  have b0 := (B15.out.box 2 _ _ rfl).cell 0 _ rfl
  have b1 := (B15.out.box 2 _ _ rfl).cell 1 _ rfl
  have b2 := (B15.out.box 2 _ _ rfl).cell 2 _ rfl
  have cl := (B15.out.box 3 _ _ rfl).lt
  have c0 := (B15.out.box 3 _ _ rfl).cell 0 _ rfl
  have c1 := (B15.out.box 3 _ _ rfl).cell 1 _ rfl
  have c2 := (B15.out.box 3 _ _ rfl).cell 2 _ rfl
  have dl := (B15.out.box 4 _ _ rfl).lt
  have d0 := (B15.out.box 4 _ _ rfl).cell 0 _ rfl
  have d1 := (B15.out.box 4 _ _ rfl).cell 1 _ rfl
  have d2 := (B15.out.box 4 _ _ rfl).cell 2 _ rfl
  have fl := (B15.out.box 5 _ _ rfl).lt
  have f0 := (B15.out.box 5 _ _ rfl).cell 0 _ rfl
  have f1 := (B15.out.box 5 _ _ rfl).cell 1 _ rfl
  have f2 := (B15.out.box 5 _ _ rfl).cell 2 _ rfl
  have yl := (B15.out.box 6 _ _ rfl).lt
  have y0 := (B15.out.box 6 _ _ rfl).cell 0 _ rfl
  have y1 := (B15.out.box 6 _ _ rfl).cell 1 _ rfl
  have y2 := (B15.out.box 6 _ _ rfl).cell 2 _ rfl
  go_wp2_with fail
  go_ret
  exact ⟨by simp, B15.out.bel⟩

theorem walk (sMode : Int) (sPassed : Bool) (sGround : Bool) (want : Int) (on : Bool) (w : World) (h_sMode : (Lit.int .i64 sMode).wf = true) (h_want : (Lit.int .i64 want).wf = true) :
    Calls Try.prog 3 #[.agg #[.int .i64 sMode, .bool sPassed, .bool sGround], .int .i64 want, .bool on] w fun e w' => e = .returned (.bool true) ∧ Below w.heap.size w w' := by
  obtain ⟨M, P, G, e, C1, C2⟩ := ask_both sMode sPassed sGround want
  obtain ⟨M2, P2, G2, e2, C3, C4⟩ := tested_both sMode sPassed sGround on
  rcases mE_cases sMode sPassed sGround with h | h | h
  · exact walk_bad sMode sPassed sGround want on 1 M P G e M2 P2 G2 e2 w h (Or.inl rfl) C1 C2 C3 C4
  · exact walk_bad sMode sPassed sGround want on 4 M P G e M2 P2 G2 e2 w h (Or.inr rfl) C1 C2 C3 C4
  · refine walk_ok sMode sPassed sGround want on (if sMode = 3 then (if on = false then 1 else 3) else sMode) M P G e M2 P2 G2 e2 w h ?_ C1 C2 C3 C4
    by_cases q : sMode = 3
    · subst q
      cases on
      · exact Or.inl ⟨rfl, rfl, rfl⟩
      · exact Or.inr (Or.inl ⟨rfl, rfl, rfl⟩)
    · exact Or.inr (Or.inr ⟨q, if_neg q⟩)

/-! ### THE ROW's STEP -/
set_option maxRecDepth 100000 in
theorem lifted (os : Os) (started : os.Started) (H : Type) (enc : TypeId × Value → H) :
    ReturnsInHanded {} Try.checked os 3 .any (Rows.modeSaysSpec.pre6 enc Try.prog Try.f3 Rows.modeSaysRow.domain false) (Rows.modeSaysSpec.post enc Try.prog Try.f3 false true false false) := by
  refine returnsInHanded_of_change_sized (C := Try.checked) own started (by kernel_rfl) Try.func3
    (ChangeSpec.witness6 (enc := enc) (C := Try.checked) false ⟨#[], #[.agg #[.int .i64 0, .bool false, .bool false], .int .i64 0, .bool false], []⟩ 8 (by kernel_rfl) (by kernel_rfl) (by kernel_rfl) (by kernel_rfl)) ?_
  intro W base args ds gs before hval0 hW hcnd hsz0 _
  have hval : ∀ (j : Nat) t v, Try.f3.params[j]? = some t → args[j]? = some v → Value.okWide Try.prog W .any base t v := hval0
  have hW' := hW
  obtain ⟨p, q, hA0, hV, rfl, hfz, hnd⟩ := hW
  have hA : DataW.TrodAll enc Try.prog W 0 (fun _ => true) true Try.f3.params.toList args.toList ds p := hA0
  rw [Try.params3] at hA hval
  obtain ⟨v_0, vs_0, d_0, ds_0, p_0, q_0, hargs, rfl, rfl, h_0, r_0⟩ := trodAll_cons hA
  obtain ⟨v_1, vs_1, d_1, ds_1, p_1, q_1, rfl, rfl, rfl, h_1, r_1⟩ := trodAll_cons r_0
  obtain ⟨v_2, vs_2, d_2, ds_2, p_2, q_2, rfl, rfl, rfl, h_2, r_2⟩ := trodAll_cons r_1
  obtain ⟨rfl, rfl, rfl⟩ := trodAll_nil r_2
  obtain rfl : args = #[v_0, v_1, v_2] := by cases args; simp_all
  obtain ⟨rfl, rfl⟩ := trodVars_none hV
  have hz_0 : Light Try.prog 23 d_0 := light_of hsz0 (j := 0) (by first | rfl | (rw [Try.params3]; rfl)) rfl
  have k_0 := h_0
  have lt_0 : ∀ x ∈ p_0, x.block < W.heap.size := by obtain ⟨m, hm⟩ := k_0; exact DataW.trod_lt m _ _ _ hm
  obtain ⟨cs_0, rfl, _⟩ := okWide_struct Try.underlying23 (hval 0 23 v_0 rfl rfl)
  obtain ⟨sMode, sPassed, sGround, e_0, h_sMode⟩ := (by obtain ⟨fuel, hf⟩ := h_0; exact open23 hf hz_0 : ∃ sMode : Int, ∃ sPassed : Bool, ∃ sGround : Bool, cs_0.toList = [.int .i64 sMode, .bool sPassed, .bool sGround] ∧ (Lit.int .i64 sMode).wf = true)
  obtain rfl : cs_0 = #[.int .i64 sMode, .bool sPassed, .bool sGround] := by cases cs_0; simp_all
  clear e_0
  have hz_1 : Light Try.prog 3 d_1 := light_of hsz0 (j := 1) (by first | rfl | (rw [Try.params3]; rfl)) rfl
  have k_1 := h_1
  have lt_1 : ∀ x ∈ p_1, x.block < W.heap.size := by obtain ⟨m, hm⟩ := k_1; exact DataW.trod_lt m _ _ _ hm
  obtain ⟨want, rfl, rfl, rfl, h_want⟩ := open_int Try.underlying3 (hval 1 3 v_1 rfl rfl) h_1
  have hz_2 : Light Try.prog 4 d_2 := light_of hsz0 (j := 2) (by first | rfl | (rw [Try.params3]; rfl)) rfl
  have k_2 := h_2
  have lt_2 : ∀ x ∈ p_2, x.block < W.heap.size := by obtain ⟨m, hm⟩ := k_2; exact DataW.trod_lt m _ _ _ hm
  obtain ⟨on, rfl, rfl, rfl⟩ := open_bool Try.underlying4 (hval 2 4 v_2 rfl rfl) h_2
  clear hA0 hval0
  refine (walk sMode sPassed sGround want on W h_sMode h_want).mono fun e W' ⟨he, bel⟩ => ?_
  subst he
  exact ⟨_, rfl, _, _, _, [], _, [], hW', trodAll_mk1 (shut_bool Try.underlying4 _), (trodAll_cons_mk (Below.trod laidOut (by kernel_rfl) (of_decide_eq_true (by kernel_rfl)) k_0 bel lt_0) (trodAll_cons_mk (Below.trod laidOut (by kernel_rfl) (of_decide_eq_true (by kernel_rfl)) k_1 bel lt_1) (trodAll_cons_mk (Below.trod laidOut (by kernel_rfl) (of_decide_eq_true (by kernel_rfl)) k_2 bel lt_2) trodAll_mk0))), rfl, bel.frame _, fun h => by cases h⟩

theorem over : Rows.modeSaysRow.holds Try.pinned (OpenSpec.ofChange Rows.modeSaysSpec) :=
  OpenClaim.holds_of_wide 3 Try.f3 rfl rfl rfl rfl rfl rfl rfl ⟨rfl, rfl, rfl, rfl, rfl⟩ rfl rfl rfl rfl rfl (by kernel_rfl) Try.func3 (by kernel_rfl)
    (of_decide_eq_true (by kernel_rfl)) (by unfold Func.isWrapper; first | (rw [if_pos (by decide +kernel)]; kernel_rfl) | (rw [if_neg (by decide +kernel)]; exact ⟨rfl, rfl⟩))
    (fun os started H enc _ => lifted os started H enc)


end Go.Proofs.Ytefbccfnlelogaa.modeSays
namespace Go.Proofs.Ytefbccfnlelogaa
/-- THE STATEMENT -/
theorem modeSays_holds : Rows.ModeSaysSaid := modeSays.over
#print axioms modeSays_holds
end Go.Proofs.Ytefbccfnlelogaa
