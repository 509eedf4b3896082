/-
  Whatever is handed in, the law ModeSafe returns true: whatever is asked in turn, a state stays right; it operates only when it was tried since it was served, it is served only on ground. No condition.
-/
import Derived.Test.YtefbccfnlelogaaMde
import Derived.Test.YtefbccfnlelogaaBxs
import Derived.Test.YtefbccfnlelogaaRest
import Derived.Test.YtefbccfnlelogaaOpenZ
import Derived.Deep.LoopGhost
import Derived.ProofKit
namespace Go.Proofs.Ytefbccfnlelogaa.modeSafe
open Go.ChangeShapes Go.WideShapes Go.ChangeAt Go.RowKit
set_option linter.unusedVariables false

theorem own : ownKnob Try.prog.godebug = none := by kernel_rfl
theorem laidOut : laidOutB Try.prog = true := by kernel_rfl


/-- what holds of a state and of whether it was served since it was tried -/
def Inv (m : Int) (p g sv : Bool) : Prop := mE m p g = 0 ∧ (sv = true → p = false) ∧ (m = 3 → sv = true)
theorem Inv.cases {m : Int} {p g sv : Bool} (h : Inv m p g sv) : (m = 1 ∧ (sv = true ∧ p = false ∨ sv = false)) ∨ (m = 2 ∧ p = true ∧ sv = false) ∨ (m = 3 ∧ p = false ∧ g = true ∧ sv = true) := by
  obtain ⟨h1, h2, h3⟩ := h
  rcases mE_ok h1 with rfl | ⟨rfl, rfl⟩ | ⟨rfl, rfl⟩
  · cases sv
    · exact Or.inl ⟨rfl, Or.inr rfl⟩
    · exact Or.inl ⟨rfl, Or.inl ⟨rfl, h2 rfl⟩⟩
  · cases sv
    · exact Or.inr (Or.inl ⟨rfl, rfl, rfl⟩)
    · cases h2 rfl
  · obtain rfl := h3 rfl
    exact Or.inr (Or.inr ⟨rfl, h2 rfl, rfl, rfl⟩)
/-- a right step: the state behind it, and whether it was served ahead of it -/
def Good (M : Int) (P G sv : Bool) : Prop := mE M P G = 0 ∧ ((M = 1 ∧ (sv = true → P = false)) ∨ (M = 2 ∧ P = true ∧ sv = false) ∨ (M = 3 ∧ P = false ∧ G = true))
theorem ask_safe (m : Int) (p g sv : Bool) (x : Int) (h : Inv m p g sv) :
    (∃ e : Int, (e = 1 ∨ e = 8) ∧ ∀ W, Calls Try.prog 6 #[.agg #[.int .i64 m, .bool p, .bool g], .int .i64 x] W fun r w' => r = .returned (.tuple #[.agg #[.int .i64 0, .bool false, .bool false], .int .i64 e]) ∧ Below W.heap.size W w') ∨
    (∃ (M : Int) (P G : Bool), Good M P G sv ∧ ∀ W, Calls Try.prog 6 #[.agg #[.int .i64 m, .bool p, .bool g], .int .i64 x] W fun r w' => r = .returned (.tuple #[.agg #[.int .i64 M, .bool P, .bool G], .int .i64 0]) ∧ Below W.heap.size W w') := by
  have hc := h.cases
  have h0 := h.1
  by_cases hx : x < 1 ∨ 3 < x
  · exact Or.inl ⟨1, Or.inl rfl, fun W => ask_arg m p g x W h0 hx⟩
  · by_cases hm : x = m
    · subst hm
      refine Or.inr ⟨x, p, g, ⟨h0, ?_⟩, fun W => ask_same x p g W h0 (by omega) (by omega)⟩
      rcases hc with ⟨a, b⟩ | ⟨a, b, c⟩ | ⟨a, b, c, d⟩
      · exact Or.inl ⟨a, h.2.1⟩
      · exact Or.inr (Or.inl ⟨a, b, c⟩)
      · exact Or.inr (Or.inr ⟨a, b, c⟩)
    · cases hb : mayM m p g x
      · exact Or.inl ⟨8, Or.inr rfl, fun W => ask_no m p g x W h0 (by omega) (by omega) hm hb⟩
      · refine Or.inr ⟨x, p && decide (¬ x = 3), g, ?_, fun W => ask_ok m p g x W h0 (by omega) (by omega) hm hb⟩
        unfold mayM at hb
        have h3 : x = 1 ∨ x = 2 ∨ x = 3 := by omega
        rcases h3 with rfl | rfl | rfl
        · exact ⟨by simp [mE], Or.inl ⟨rfl, fun q => by simp [h.2.1 q]⟩⟩
        · simp only [if_true, Bool.and_eq_true, decide_eq_true_eq] at hb
          obtain ⟨hb1, hb2⟩ := hb
          subst hb2
          refine ⟨by simp [mE], Or.inr (Or.inl ⟨rfl, by simp, ?_⟩)⟩
          cases sv
          · rfl
          · cases h.2.1 rfl
        · have hb2 : g = true := by simpa using hb
          subst hb2
          exact ⟨by simp [mE], Or.inr (Or.inr ⟨rfl, by simp, rfl⟩)⟩
theorem ground_safe (m : Int) (p g sv on : Bool) (h : Inv m p g sv) :
    ∃ (M : Int) (P G : Bool), Good M P G sv ∧ ∀ W, Calls Try.prog 8 #[.agg #[.int .i64 m, .bool p, .bool g], .bool on] W fun r w' => r = .returned (.tuple #[.agg #[.int .i64 M, .bool P, .bool G], .int .i64 0]) ∧ Below W.heap.size W w' := by
  have hc := h.cases
  have h0 := h.1
  rcases hc with ⟨rfl, b⟩ | ⟨rfl, rfl, rfl⟩ | ⟨rfl, rfl, rfl, rfl⟩
  · exact ⟨1, p, on, ⟨by simp [mE], Or.inl ⟨rfl, h.2.1⟩⟩, fun W => ground_ok 1 p g on 1 W h0 (Or.inr (Or.inr ⟨by decide, rfl⟩))⟩
  · exact ⟨2, true, on, ⟨by simp [mE], Or.inr (Or.inl ⟨rfl, rfl, rfl⟩)⟩, fun W => ground_ok 2 true g on 2 W h0 (Or.inr (Or.inr ⟨by decide, rfl⟩))⟩
  · cases on
    · exact ⟨1, false, false, ⟨by simp [mE], Or.inl ⟨rfl, fun _ => rfl⟩⟩, fun W => ground_ok 3 false true false 1 W h0 (Or.inl ⟨rfl, rfl, rfl⟩)⟩
    · exact ⟨3, false, true, ⟨by simp [mE], Or.inr (Or.inr ⟨rfl, rfl, rfl⟩)⟩, fun W => ground_ok 3 false true true 3 W h0 (Or.inr (Or.inl ⟨rfl, rfl, rfl⟩))⟩
theorem tested_safe (m : Int) (p g sv on : Bool) (h : Inv m p g sv) :
    (∀ W, Calls Try.prog 9 #[.agg #[.int .i64 m, .bool p, .bool g], .bool on] W fun r w' => r = .returned (.tuple #[.agg #[.int .i64 0, .bool false, .bool false], .int .i64 8]) ∧ Below W.heap.size W w') ∨
    (∀ W, Calls Try.prog 9 #[.agg #[.int .i64 m, .bool p, .bool g], .bool on] W fun r w' => r = .returned (.tuple #[.agg #[.int .i64 1, .bool on, .bool true], .int .i64 0]) ∧ Below W.heap.size W w') := by
  by_cases q : m = 1
  · subst q
    cases g
    · exact Or.inl fun W => tested_no 1 p false on W h.1 (Or.inr ⟨rfl, rfl⟩)
    · exact Or.inr fun W => tested_ok p on W h.1
  · exact Or.inl fun W => tested_no m p g on W h.1 (Or.inl q)
theorem first_ask (W : World) : Calls Try.prog 6 #[.agg #[.int .i64 1, .bool true, .bool false], .int .i64 2] W fun r w' => r = .returned (.tuple #[.agg #[.int .i64 2, .bool true, .bool false], .int .i64 0]) ∧ Below W.heap.size W w' := by
  have k := ask_ok 1 true false 2 W (by simp [mE]) (by decide) (by decide) (by decide) (by simp [mayM])
  rw [show (true && decide (¬ (2 : Int) = 3)) = true from by decide] at k
  exact k
theorem bxs_one {w W : World} {p q : Nat × List Value} (h : Bxs w [p, q] W) : Bxs w [p] W := by
  have k : ∀ (i : Nat) (x : Nat × List Value), [p][i]? = some x → [p, q][i]? = some x := fun i x hi => by
    cases i with
    | zero => exact hi
    | succ i => simp at hi
  exact ⟨h.bel, fun i b vs hi => h.box i b vs (k i _ hi), fun i b vs hi => h.own i b vs (k i _ hi), fun i j b c vs us hi hj => h.nd i j b c vs us (k i _ hi) (k j _ hj)⟩

set_option maxHeartbeats 16000000 in
set_option maxRecDepth 100000 in
theorem walk (asksa : Option Addr) (asksn asksc : Nat) (asks : Nat → Int) (w : World) (h_asks : RowZ .i64 8 w asksa asksn asksc asks) :
    Calls Try.prog 4 #[.slice asksa asksn asksc] w fun e w' => e = .returned (.bool true) ∧ Below w.heap.size w w' := by
  have HL : Hid (_) := h_asks.1.2.2.2
  have hk : asksn ≤ 17592186043904 := by have := h_asks.2.1; omega
  clear h_asks
  go_enter Try.func4, Try.ntmps4
  go_wp2_with fail
  refine (first_ask _).mono ?_
  rintro r w1 ⟨rfl, hb⟩
  have B1 : Hid (_) := (bxs_nil w).step hb
  clear hb
  go_wp2_with fail
  obtain ⟨N, W6, hW6, hN6, B6', Z6⟩ := (B1.out.alloc (.cells #[.int .i64 2, .bool true, .bool false] 23)).new #[.int .i64 1, .bool false, .bool true] 23
  rw [lay_size] at hN6
  rw [hW6, hN6]
  have B6 : Hid (_) := B6'
  clear hW6 hN6 B6' B1 Z6
  go_loopg [6, 27] (asksn + 1) (fun g0 v t wr => ∃ (j : Nat) (m : Int) (p g sv : Bool), v = .bool sv ∧ t = .int .i64 j ∧ asksn - j < g0 ∧ j ≤ asksn ∧ Hid (Inv m p g sv) ∧ Hid (Bxs w [(N, [.int .i64 m, .bool p, .bool g])] wr))
  case atStart => exact ⟨0, 1, false, true, false, rfl, rfl, by omega, by omega, ⟨by simp [mE], by simp, by simp⟩, B6.out⟩
  case round =>
    obtain ⟨j, m, p, g, sv, rfl, rfl, hg, hj, HI, HB⟩ := hrel
    clear B6
    by_cases hlt : j < asksn
    · have z1 : (j : Int) < (asksn : Int) := by omega
      obtain ⟨b0, off, rfl, hbl, hcell⟩ := HL.out (by omega)
      have x0 := (HB.out.bel.cell (p := ⟨b0, off + j, none⟩) hbl).trans (hcell j hlt)
      clear hcell
      generalize asks j = e at *
      have CR : Hid (∀ W, Calls Try.prog 13 #[.int .i64 e, .int .i64 8] W fun r w' => r = .returned (.int .i64 (e % 8)) ∧ w' = W) := fun W => rrest_any e 8 (by decide) (by decide) W
      have k0 : 0 ≤ e % 8 := Int.emod_nonneg _ (by decide)
      have k1 : e % 8 < 8 := Int.emod_lt_of_pos _ (by decide)
      generalize e % 8 = k at *
      go_wp2_with fail
      obtain ⟨N1, W7, hW7, hN7, B7', Z7⟩ := HB.out.new #[.int .i64 0, .bool false, .bool false] 23
      rw [hW7, hN7]
      have B7 : Hid (_) := B7'
      clear hW7 hN7 B7' x0 HB Z7
      refine (CR.out _).mono ?_
      rintro r w2 ⟨rfl, rfl⟩
      clear CR
      have n01 : ¬ N = N1 := B7.out.nd 0 1 _ _ _ _ rfl rfl (by decide)
      have n10 : ¬ N1 = N := fun q => n01 q.symm
      have pl := (B7.out.box 0 _ _ rfl).lt
      have p0 := (B7.out.box 0 _ _ rfl).cell 0 _ rfl
      have p1 := (B7.out.box 0 _ _ rfl).cell 1 _ rfl
      have p2 := (B7.out.box 0 _ _ rfl).cell 2 _ rfl
      have hk8 : k < 4 ∨ (¬ k < 4 ∧ k = 4) ∨ (¬ k < 4 ∧ k = 5) ∨ (¬ k < 4 ∧ k = 6) ∨ (¬ k < 4 ∧ k = 7) := by omega
      clear k0 k1
      rcases hk8 with hk4 | ⟨-, rfl⟩ | ⟨-, rfl⟩ | ⟨-, rfl⟩ | ⟨-, rfl⟩
      · skip
        rcases ask_safe m p g sv k HI.out with ⟨e, he, C'⟩ | ⟨M, P, G, hG, C'⟩
        · have CA : Hid (_) := C'
          clear C'
          go_wp2_with fail
          refine (CA.out _).mono ?_
          rintro r w3 ⟨rfl, hb⟩
          have B8 : Hid (_) := B7.out.step hb
          clear hb B7 CA
          clear pl p0 p1 p2
          have pl := (B8.out.box 0 _ _ rfl).lt
          have p0 := (B8.out.box 0 _ _ rfl).cell 0 _ rfl
          have p1 := (B8.out.box 0 _ _ rfl).cell 1 _ rfl
          have p2 := (B8.out.box 0 _ _ rfl).cell 2 _ rfl
          have pf0 := (B8.out.box 0 _ _ rfl).froz 0 _ rfl
          have pf1 := (B8.out.box 0 _ _ rfl).froz 1 _ rfl
          have pf2 := (B8.out.box 0 _ _ rfl).froz 2 _ rfl
          have nl := (B8.out.box 1 _ _ rfl).lt
          have n0 := (B8.out.box 1 _ _ rfl).cell 0 _ rfl
          have n1 := (B8.out.box 1 _ _ rfl).cell 1 _ rfl
          have n2 := (B8.out.box 1 _ _ rfl).cell 2 _ rfl
          have nf0 := (B8.out.box 1 _ _ rfl).froz 0 _ rfl
          have nf1 := (B8.out.box 1 _ _ rfl).froz 1 _ rfl
          have nf2 := (B8.out.box 1 _ _ rfl).froz 2 _ rfl
          rcases he with rfl | rfl
          all_goals
            go_wp2_with fail
            obtain ⟨V1, hV1, B9⟩ := B8.out.put3 1 N1 (.int .i64 0) (.bool false) (.bool false) rfl
            rw [hV1]
            have B9' : Hid (_) := bxs_one B9
            clear hV1 B9
            go_roundg (asksn - (j + 1) + 1)
            case measure => omega
            case rel => exact ⟨j + 1, m, p, g, _, rfl, by go_num, by omega, by omega, HI.out, B9'.out⟩
        · have CA : Hid (_) := C'
          clear C'
          go_wp2_with fail
          refine (CA.out _).mono ?_
          rintro r w3 ⟨rfl, hb⟩
          have B8 : Hid (_) := B7.out.step hb
          clear hb B7 CA
          clear pl p0 p1 p2
          have pl := (B8.out.box 0 _ _ rfl).lt
          have p0 := (B8.out.box 0 _ _ rfl).cell 0 _ rfl
          have p1 := (B8.out.box 0 _ _ rfl).cell 1 _ rfl
          have p2 := (B8.out.box 0 _ _ rfl).cell 2 _ rfl
          have pf0 := (B8.out.box 0 _ _ rfl).froz 0 _ rfl
          have pf1 := (B8.out.box 0 _ _ rfl).froz 1 _ rfl
          have pf2 := (B8.out.box 0 _ _ rfl).froz 2 _ rfl
          have nl := (B8.out.box 1 _ _ rfl).lt
          have n0 := (B8.out.box 1 _ _ rfl).cell 0 _ rfl
          have n1 := (B8.out.box 1 _ _ rfl).cell 1 _ rfl
          have n2 := (B8.out.box 1 _ _ rfl).cell 2 _ rfl
          have nf0 := (B8.out.box 1 _ _ rfl).froz 0 _ rfl
          have nf1 := (B8.out.box 1 _ _ rfl).froz 1 _ rfl
          have nf2 := (B8.out.box 1 _ _ rfl).froz 2 _ rfl
          rcases hG with ⟨hE, ⟨rfl, hp⟩ | ⟨rfl, rfl, rfl⟩ | ⟨rfl, rfl, rfl⟩⟩
          · cases sv
            · clear hp
              have CK : Hid (_) := fun W => mcheck_any 1 P G W
              rw [hE] at CK
              go_wp2_with fail
              obtain ⟨V1, hV1, B9⟩ := B8.out.put3 1 N1 (.int .i64 1) (.bool P) (.bool G) rfl
              rw [hV1]
              obtain ⟨V2, hV2, B10'⟩ := B9.put3 0 N (.int .i64 1) (.bool P) (.bool G) rfl
              rw [hV2]
              have B10 : Hid (_) := B10'
              clear hV1 B9 hV2 B10'
              clear pl p0 p1 p2
              clear pf0 pf1 pf2
              clear nl n0 n1 n2
              clear nf0 nf1 nf2
              refine (CK.out _).mono ?_
              rintro r w4 ⟨rfl, hb⟩
              have B11 : Hid (_) := B10.out.step hb
              clear hb B10 CK
              have pl := (B11.out.box 0 _ _ rfl).lt
              have p0 := (B11.out.box 0 _ _ rfl).cell 0 _ rfl
              have p1 := (B11.out.box 0 _ _ rfl).cell 1 _ rfl
              have p2 := (B11.out.box 0 _ _ rfl).cell 2 _ rfl
              go_wp2_with fail
              have B12 : Hid (_) := bxs_one B11.out
              go_roundg (asksn - (j + 1) + 1)
              case measure => omega
              case rel => exact ⟨j + 1, 1, P, G, _, rfl, by go_num, by omega, by omega, ⟨hE, by simp, by simp⟩, B12.out⟩
            · obtain rfl := hp rfl
              clear hp
              have CK : Hid (_) := fun W => mcheck_any 1 false G W
              rw [hE] at CK
              go_wp2_with fail
              obtain ⟨V1, hV1, B9⟩ := B8.out.put3 1 N1 (.int .i64 1) (.bool false) (.bool G) rfl
              rw [hV1]
              obtain ⟨V2, hV2, B10'⟩ := B9.put3 0 N (.int .i64 1) (.bool false) (.bool G) rfl
              rw [hV2]
              have B10 : Hid (_) := B10'
              clear hV1 B9 hV2 B10'
              clear pl p0 p1 p2
              clear pf0 pf1 pf2
              clear nl n0 n1 n2
              clear nf0 nf1 nf2
              refine (CK.out _).mono ?_
              rintro r w4 ⟨rfl, hb⟩
              have B11 : Hid (_) := B10.out.step hb
              clear hb B10 CK
              have pl := (B11.out.box 0 _ _ rfl).lt
              have p0 := (B11.out.box 0 _ _ rfl).cell 0 _ rfl
              have p1 := (B11.out.box 0 _ _ rfl).cell 1 _ rfl
              have p2 := (B11.out.box 0 _ _ rfl).cell 2 _ rfl
              go_wp2_with fail
              have B12 : Hid (_) := bxs_one B11.out
              go_roundg (asksn - (j + 1) + 1)
              case measure => omega
              case rel => exact ⟨j + 1, 1, false, G, _, rfl, by go_num, by omega, by omega, ⟨hE, by simp, by simp⟩, B12.out⟩
          · skip
            have CK : Hid (_) := fun W => mcheck_any 2 true G W
            rw [hE] at CK
            go_wp2_with fail
            obtain ⟨V1, hV1, B9⟩ := B8.out.put3 1 N1 (.int .i64 2) (.bool true) (.bool G) rfl
            rw [hV1]
            obtain ⟨V2, hV2, B10'⟩ := B9.put3 0 N (.int .i64 2) (.bool true) (.bool G) rfl
            rw [hV2]
            have B10 : Hid (_) := B10'
            clear hV1 B9 hV2 B10'
            clear pl p0 p1 p2
            clear pf0 pf1 pf2
            clear nl n0 n1 n2
            clear nf0 nf1 nf2
            refine (CK.out _).mono ?_
            rintro r w4 ⟨rfl, hb⟩
            have B11 : Hid (_) := B10.out.step hb
            clear hb B10 CK
            have pl := (B11.out.box 0 _ _ rfl).lt
            have p0 := (B11.out.box 0 _ _ rfl).cell 0 _ rfl
            have p1 := (B11.out.box 0 _ _ rfl).cell 1 _ rfl
            have p2 := (B11.out.box 0 _ _ rfl).cell 2 _ rfl
            go_wp2_with fail
            have B12 : Hid (_) := bxs_one B11.out
            go_roundg (asksn - (j + 1) + 1)
            case measure => omega
            case rel => exact ⟨j + 1, 2, true, G, _, rfl, by go_num, by omega, by omega, ⟨hE, by simp, by simp⟩, B12.out⟩
          · cases sv
            · skip
              have CK : Hid (_) := fun W => mcheck_any 3 false true W
              rw [hE] at CK
              go_wp2_with fail
              obtain ⟨V1, hV1, B9⟩ := B8.out.put3 1 N1 (.int .i64 3) (.bool false) (.bool true) rfl
              rw [hV1]
              obtain ⟨V2, hV2, B10'⟩ := B9.put3 0 N (.int .i64 3) (.bool false) (.bool true) rfl
              rw [hV2]
              have B10 : Hid (_) := B10'
              clear hV1 B9 hV2 B10'
              clear pl p0 p1 p2
              clear pf0 pf1 pf2
              clear nl n0 n1 n2
              clear nf0 nf1 nf2
              refine (CK.out _).mono ?_
              rintro r w4 ⟨rfl, hb⟩
              have B11 : Hid (_) := B10.out.step hb
              clear hb B10 CK
              have pl := (B11.out.box 0 _ _ rfl).lt
              have p0 := (B11.out.box 0 _ _ rfl).cell 0 _ rfl
              have p1 := (B11.out.box 0 _ _ rfl).cell 1 _ rfl
              have p2 := (B11.out.box 0 _ _ rfl).cell 2 _ rfl
              go_wp2_with fail
              have B12 : Hid (_) := bxs_one B11.out
              go_roundg (asksn - (j + 1) + 1)
              case measure => omega
              case rel => exact ⟨j + 1, 3, false, true, _, rfl, by go_num, by omega, by omega, ⟨hE, by simp, by simp⟩, B12.out⟩
            · skip
              have CK : Hid (_) := fun W => mcheck_any 3 false true W
              rw [hE] at CK
              go_wp2_with fail
              obtain ⟨V1, hV1, B9⟩ := B8.out.put3 1 N1 (.int .i64 3) (.bool false) (.bool true) rfl
              rw [hV1]
              obtain ⟨V2, hV2, B10'⟩ := B9.put3 0 N (.int .i64 3) (.bool false) (.bool true) rfl
              rw [hV2]
              have B10 : Hid (_) := B10'
              clear hV1 B9 hV2 B10'
              clear pl p0 p1 p2
              clear pf0 pf1 pf2
              clear nl n0 n1 n2
              clear nf0 nf1 nf2
              refine (CK.out _).mono ?_
              rintro r w4 ⟨rfl, hb⟩
              have B11 : Hid (_) := B10.out.step hb
              clear hb B10 CK
              have pl := (B11.out.box 0 _ _ rfl).lt
              have p0 := (B11.out.box 0 _ _ rfl).cell 0 _ rfl
              have p1 := (B11.out.box 0 _ _ rfl).cell 1 _ rfl
              have p2 := (B11.out.box 0 _ _ rfl).cell 2 _ rfl
              go_wp2_with fail
              have B12 : Hid (_) := bxs_one B11.out
              go_roundg (asksn - (j + 1) + 1)
              case measure => omega
              case rel => exact ⟨j + 1, 3, false, true, _, rfl, by go_num, by omega, by omega, ⟨hE, by simp, by simp⟩, B12.out⟩
      · skip
        obtain ⟨M, P, G, hG, C'⟩ := ground_safe m p g sv true HI.out
        have CA : Hid (_) := C'
        clear C'
        go_wp2_with fail
        refine (CA.out _).mono ?_
        rintro r w3 ⟨rfl, hb⟩
        have B8 : Hid (_) := B7.out.step hb
        clear hb B7 CA
        clear pl p0 p1 p2
        have pl := (B8.out.box 0 _ _ rfl).lt
        have p0 := (B8.out.box 0 _ _ rfl).cell 0 _ rfl
        have p1 := (B8.out.box 0 _ _ rfl).cell 1 _ rfl
        have p2 := (B8.out.box 0 _ _ rfl).cell 2 _ rfl
        have pf0 := (B8.out.box 0 _ _ rfl).froz 0 _ rfl
        have pf1 := (B8.out.box 0 _ _ rfl).froz 1 _ rfl
        have pf2 := (B8.out.box 0 _ _ rfl).froz 2 _ rfl
        have nl := (B8.out.box 1 _ _ rfl).lt
        have n0 := (B8.out.box 1 _ _ rfl).cell 0 _ rfl
        have n1 := (B8.out.box 1 _ _ rfl).cell 1 _ rfl
        have n2 := (B8.out.box 1 _ _ rfl).cell 2 _ rfl
        have nf0 := (B8.out.box 1 _ _ rfl).froz 0 _ rfl
        have nf1 := (B8.out.box 1 _ _ rfl).froz 1 _ rfl
        have nf2 := (B8.out.box 1 _ _ rfl).froz 2 _ rfl
        rcases hG with ⟨hE, ⟨rfl, hp⟩ | ⟨rfl, rfl, rfl⟩ | ⟨rfl, rfl, rfl⟩⟩
        · cases sv
          · clear hp
            have CK : Hid (_) := fun W => mcheck_any 1 P G W
            rw [hE] at CK
            go_wp2_with fail
            obtain ⟨V1, hV1, B9⟩ := B8.out.put3 1 N1 (.int .i64 1) (.bool P) (.bool G) rfl
            rw [hV1]
            obtain ⟨V2, hV2, B10'⟩ := B9.put3 0 N (.int .i64 1) (.bool P) (.bool G) rfl
            rw [hV2]
            have B10 : Hid (_) := B10'
            clear hV1 B9 hV2 B10'
            clear pl p0 p1 p2
            clear pf0 pf1 pf2
            clear nl n0 n1 n2
            clear nf0 nf1 nf2
            refine (CK.out _).mono ?_
            rintro r w4 ⟨rfl, hb⟩
            have B11 : Hid (_) := B10.out.step hb
            clear hb B10 CK
            have pl := (B11.out.box 0 _ _ rfl).lt
            have p0 := (B11.out.box 0 _ _ rfl).cell 0 _ rfl
            have p1 := (B11.out.box 0 _ _ rfl).cell 1 _ rfl
            have p2 := (B11.out.box 0 _ _ rfl).cell 2 _ rfl
            go_wp2_with fail
            have B12 : Hid (_) := bxs_one B11.out
            go_roundg (asksn - (j + 1) + 1)
            case measure => omega
            case rel => exact ⟨j + 1, 1, P, G, _, rfl, by go_num, by omega, by omega, ⟨hE, by simp, by simp⟩, B12.out⟩
          · obtain rfl := hp rfl
            clear hp
            have CK : Hid (_) := fun W => mcheck_any 1 false G W
            rw [hE] at CK
            go_wp2_with fail
            obtain ⟨V1, hV1, B9⟩ := B8.out.put3 1 N1 (.int .i64 1) (.bool false) (.bool G) rfl
            rw [hV1]
            obtain ⟨V2, hV2, B10'⟩ := B9.put3 0 N (.int .i64 1) (.bool false) (.bool G) rfl
            rw [hV2]
            have B10 : Hid (_) := B10'
            clear hV1 B9 hV2 B10'
            clear pl p0 p1 p2
            clear pf0 pf1 pf2
            clear nl n0 n1 n2
            clear nf0 nf1 nf2
            refine (CK.out _).mono ?_
            rintro r w4 ⟨rfl, hb⟩
            have B11 : Hid (_) := B10.out.step hb
            clear hb B10 CK
            have pl := (B11.out.box 0 _ _ rfl).lt
            have p0 := (B11.out.box 0 _ _ rfl).cell 0 _ rfl
            have p1 := (B11.out.box 0 _ _ rfl).cell 1 _ rfl
            have p2 := (B11.out.box 0 _ _ rfl).cell 2 _ rfl
            go_wp2_with fail
            have B12 : Hid (_) := bxs_one B11.out
            go_roundg (asksn - (j + 1) + 1)
            case measure => omega
            case rel => exact ⟨j + 1, 1, false, G, _, rfl, by go_num, by omega, by omega, ⟨hE, by simp, by simp⟩, B12.out⟩
        · skip
          have CK : Hid (_) := fun W => mcheck_any 2 true G W
          rw [hE] at CK
          go_wp2_with fail
          obtain ⟨V1, hV1, B9⟩ := B8.out.put3 1 N1 (.int .i64 2) (.bool true) (.bool G) rfl
          rw [hV1]
          obtain ⟨V2, hV2, B10'⟩ := B9.put3 0 N (.int .i64 2) (.bool true) (.bool G) rfl
          rw [hV2]
          have B10 : Hid (_) := B10'
          clear hV1 B9 hV2 B10'
          clear pl p0 p1 p2
          clear pf0 pf1 pf2
          clear nl n0 n1 n2
          clear nf0 nf1 nf2
          refine (CK.out _).mono ?_
          rintro r w4 ⟨rfl, hb⟩
          have B11 : Hid (_) := B10.out.step hb
          clear hb B10 CK
          have pl := (B11.out.box 0 _ _ rfl).lt
          have p0 := (B11.out.box 0 _ _ rfl).cell 0 _ rfl
          have p1 := (B11.out.box 0 _ _ rfl).cell 1 _ rfl
          have p2 := (B11.out.box 0 _ _ rfl).cell 2 _ rfl
          go_wp2_with fail
          have B12 : Hid (_) := bxs_one B11.out
          go_roundg (asksn - (j + 1) + 1)
          case measure => omega
          case rel => exact ⟨j + 1, 2, true, G, _, rfl, by go_num, by omega, by omega, ⟨hE, by simp, by simp⟩, B12.out⟩
        · cases sv
          · skip
            have CK : Hid (_) := fun W => mcheck_any 3 false true W
            rw [hE] at CK
            go_wp2_with fail
            obtain ⟨V1, hV1, B9⟩ := B8.out.put3 1 N1 (.int .i64 3) (.bool false) (.bool true) rfl
            rw [hV1]
            obtain ⟨V2, hV2, B10'⟩ := B9.put3 0 N (.int .i64 3) (.bool false) (.bool true) rfl
            rw [hV2]
            have B10 : Hid (_) := B10'
            clear hV1 B9 hV2 B10'
            clear pl p0 p1 p2
            clear pf0 pf1 pf2
            clear nl n0 n1 n2
            clear nf0 nf1 nf2
            refine (CK.out _).mono ?_
            rintro r w4 ⟨rfl, hb⟩
            have B11 : Hid (_) := B10.out.step hb
            clear hb B10 CK
            have pl := (B11.out.box 0 _ _ rfl).lt
            have p0 := (B11.out.box 0 _ _ rfl).cell 0 _ rfl
            have p1 := (B11.out.box 0 _ _ rfl).cell 1 _ rfl
            have p2 := (B11.out.box 0 _ _ rfl).cell 2 _ rfl
            go_wp2_with fail
            have B12 : Hid (_) := bxs_one B11.out
            go_roundg (asksn - (j + 1) + 1)
            case measure => omega
            case rel => exact ⟨j + 1, 3, false, true, _, rfl, by go_num, by omega, by omega, ⟨hE, by simp, by simp⟩, B12.out⟩
          · skip
            have CK : Hid (_) := fun W => mcheck_any 3 false true W
            rw [hE] at CK
            go_wp2_with fail
            obtain ⟨V1, hV1, B9⟩ := B8.out.put3 1 N1 (.int .i64 3) (.bool false) (.bool true) rfl
            rw [hV1]
            obtain ⟨V2, hV2, B10'⟩ := B9.put3 0 N (.int .i64 3) (.bool false) (.bool true) rfl
            rw [hV2]
            have B10 : Hid (_) := B10'
            clear hV1 B9 hV2 B10'
            clear pl p0 p1 p2
            clear pf0 pf1 pf2
            clear nl n0 n1 n2
            clear nf0 nf1 nf2
            refine (CK.out _).mono ?_
            rintro r w4 ⟨rfl, hb⟩
            have B11 : Hid (_) := B10.out.step hb
            clear hb B10 CK
            have pl := (B11.out.box 0 _ _ rfl).lt
            have p0 := (B11.out.box 0 _ _ rfl).cell 0 _ rfl
            have p1 := (B11.out.box 0 _ _ rfl).cell 1 _ rfl
            have p2 := (B11.out.box 0 _ _ rfl).cell 2 _ rfl
            go_wp2_with fail
            have B12 : Hid (_) := bxs_one B11.out
            go_roundg (asksn - (j + 1) + 1)
            case measure => omega
            case rel => exact ⟨j + 1, 3, false, true, _, rfl, by go_num, by omega, by omega, ⟨hE, by simp, by simp⟩, B12.out⟩
      · skip
        obtain ⟨M, P, G, hG, C'⟩ := ground_safe m p g sv false HI.out
        have CA : Hid (_) := C'
        clear C'
        go_wp2_with fail
        refine (CA.out _).mono ?_
        rintro r w3 ⟨rfl, hb⟩
        have B8 : Hid (_) := B7.out.step hb
        clear hb B7 CA
        clear pl p0 p1 p2
        have pl := (B8.out.box 0 _ _ rfl).lt
        have p0 := (B8.out.box 0 _ _ rfl).cell 0 _ rfl
        have p1 := (B8.out.box 0 _ _ rfl).cell 1 _ rfl
        have p2 := (B8.out.box 0 _ _ rfl).cell 2 _ rfl
        have pf0 := (B8.out.box 0 _ _ rfl).froz 0 _ rfl
        have pf1 := (B8.out.box 0 _ _ rfl).froz 1 _ rfl
        have pf2 := (B8.out.box 0 _ _ rfl).froz 2 _ rfl
        have nl := (B8.out.box 1 _ _ rfl).lt
        have n0 := (B8.out.box 1 _ _ rfl).cell 0 _ rfl
        have n1 := (B8.out.box 1 _ _ rfl).cell 1 _ rfl
        have n2 := (B8.out.box 1 _ _ rfl).cell 2 _ rfl
        have nf0 := (B8.out.box 1 _ _ rfl).froz 0 _ rfl
        have nf1 := (B8.out.box 1 _ _ rfl).froz 1 _ rfl
        have nf2 := (B8.out.box 1 _ _ rfl).froz 2 _ rfl
        rcases hG with ⟨hE, ⟨rfl, hp⟩ | ⟨rfl, rfl, rfl⟩ | ⟨rfl, rfl, rfl⟩⟩
        · cases sv
          · clear hp
            have CK : Hid (_) := fun W => mcheck_any 1 P G W
            rw [hE] at CK
            go_wp2_with fail
            obtain ⟨V1, hV1, B9⟩ := B8.out.put3 1 N1 (.int .i64 1) (.bool P) (.bool G) rfl
            rw [hV1]
            obtain ⟨V2, hV2, B10'⟩ := B9.put3 0 N (.int .i64 1) (.bool P) (.bool G) rfl
            rw [hV2]
            have B10 : Hid (_) := B10'
            clear hV1 B9 hV2 B10'
            clear pl p0 p1 p2
            clear pf0 pf1 pf2
            clear nl n0 n1 n2
            clear nf0 nf1 nf2
            refine (CK.out _).mono ?_
            rintro r w4 ⟨rfl, hb⟩
            have B11 : Hid (_) := B10.out.step hb
            clear hb B10 CK
            have pl := (B11.out.box 0 _ _ rfl).lt
            have p0 := (B11.out.box 0 _ _ rfl).cell 0 _ rfl
            have p1 := (B11.out.box 0 _ _ rfl).cell 1 _ rfl
            have p2 := (B11.out.box 0 _ _ rfl).cell 2 _ rfl
            go_wp2_with fail
            have B12 : Hid (_) := bxs_one B11.out
            go_roundg (asksn - (j + 1) + 1)
            case measure => omega
            case rel => exact ⟨j + 1, 1, P, G, _, rfl, by go_num, by omega, by omega, ⟨hE, by simp, by simp⟩, B12.out⟩
          · obtain rfl := hp rfl
            clear hp
            have CK : Hid (_) := fun W => mcheck_any 1 false G W
            rw [hE] at CK
            go_wp2_with fail
            obtain ⟨V1, hV1, B9⟩ := B8.out.put3 1 N1 (.int .i64 1) (.bool false) (.bool G) rfl
            rw [hV1]
            obtain ⟨V2, hV2, B10'⟩ := B9.put3 0 N (.int .i64 1) (.bool false) (.bool G) rfl
            rw [hV2]
            have B10 : Hid (_) := B10'
            clear hV1 B9 hV2 B10'
            clear pl p0 p1 p2
            clear pf0 pf1 pf2
            clear nl n0 n1 n2
            clear nf0 nf1 nf2
            refine (CK.out _).mono ?_
            rintro r w4 ⟨rfl, hb⟩
            have B11 : Hid (_) := B10.out.step hb
            clear hb B10 CK
            have pl := (B11.out.box 0 _ _ rfl).lt
            have p0 := (B11.out.box 0 _ _ rfl).cell 0 _ rfl
            have p1 := (B11.out.box 0 _ _ rfl).cell 1 _ rfl
            have p2 := (B11.out.box 0 _ _ rfl).cell 2 _ rfl
            go_wp2_with fail
            have B12 : Hid (_) := bxs_one B11.out
            go_roundg (asksn - (j + 1) + 1)
            case measure => omega
            case rel => exact ⟨j + 1, 1, false, G, _, rfl, by go_num, by omega, by omega, ⟨hE, by simp, by simp⟩, B12.out⟩
        · skip
          have CK : Hid (_) := fun W => mcheck_any 2 true G W
          rw [hE] at CK
          go_wp2_with fail
          obtain ⟨V1, hV1, B9⟩ := B8.out.put3 1 N1 (.int .i64 2) (.bool true) (.bool G) rfl
          rw [hV1]
          obtain ⟨V2, hV2, B10'⟩ := B9.put3 0 N (.int .i64 2) (.bool true) (.bool G) rfl
          rw [hV2]
          have B10 : Hid (_) := B10'
          clear hV1 B9 hV2 B10'
          clear pl p0 p1 p2
          clear pf0 pf1 pf2
          clear nl n0 n1 n2
          clear nf0 nf1 nf2
          refine (CK.out _).mono ?_
          rintro r w4 ⟨rfl, hb⟩
          have B11 : Hid (_) := B10.out.step hb
          clear hb B10 CK
          have pl := (B11.out.box 0 _ _ rfl).lt
          have p0 := (B11.out.box 0 _ _ rfl).cell 0 _ rfl
          have p1 := (B11.out.box 0 _ _ rfl).cell 1 _ rfl
          have p2 := (B11.out.box 0 _ _ rfl).cell 2 _ rfl
          go_wp2_with fail
          have B12 : Hid (_) := bxs_one B11.out
          go_roundg (asksn - (j + 1) + 1)
          case measure => omega
          case rel => exact ⟨j + 1, 2, true, G, _, rfl, by go_num, by omega, by omega, ⟨hE, by simp, by simp⟩, B12.out⟩
        · cases sv
          · skip
            have CK : Hid (_) := fun W => mcheck_any 3 false true W
            rw [hE] at CK
            go_wp2_with fail
            obtain ⟨V1, hV1, B9⟩ := B8.out.put3 1 N1 (.int .i64 3) (.bool false) (.bool true) rfl
            rw [hV1]
            obtain ⟨V2, hV2, B10'⟩ := B9.put3 0 N (.int .i64 3) (.bool false) (.bool true) rfl
            rw [hV2]
            have B10 : Hid (_) := B10'
            clear hV1 B9 hV2 B10'
            clear pl p0 p1 p2
            clear pf0 pf1 pf2
            clear nl n0 n1 n2
            clear nf0 nf1 nf2
            refine (CK.out _).mono ?_
            rintro r w4 ⟨rfl, hb⟩
            have B11 : Hid (_) := B10.out.step hb
            clear hb B10 CK
            have pl := (B11.out.box 0 _ _ rfl).lt
            have p0 := (B11.out.box 0 _ _ rfl).cell 0 _ rfl
            have p1 := (B11.out.box 0 _ _ rfl).cell 1 _ rfl
            have p2 := (B11.out.box 0 _ _ rfl).cell 2 _ rfl
            go_wp2_with fail
            have B12 : Hid (_) := bxs_one B11.out
            go_roundg (asksn - (j + 1) + 1)
            case measure => omega
            case rel => exact ⟨j + 1, 3, false, true, _, rfl, by go_num, by omega, by omega, ⟨hE, by simp, by simp⟩, B12.out⟩
          · skip
            have CK : Hid (_) := fun W => mcheck_any 3 false true W
            rw [hE] at CK
            go_wp2_with fail
            obtain ⟨V1, hV1, B9⟩ := B8.out.put3 1 N1 (.int .i64 3) (.bool false) (.bool true) rfl
            rw [hV1]
            obtain ⟨V2, hV2, B10'⟩ := B9.put3 0 N (.int .i64 3) (.bool false) (.bool true) rfl
            rw [hV2]
            have B10 : Hid (_) := B10'
            clear hV1 B9 hV2 B10'
            clear pl p0 p1 p2
            clear pf0 pf1 pf2
            clear nl n0 n1 n2
            clear nf0 nf1 nf2
            refine (CK.out _).mono ?_
            rintro r w4 ⟨rfl, hb⟩
            have B11 : Hid (_) := B10.out.step hb
            clear hb B10 CK
            have pl := (B11.out.box 0 _ _ rfl).lt
            have p0 := (B11.out.box 0 _ _ rfl).cell 0 _ rfl
            have p1 := (B11.out.box 0 _ _ rfl).cell 1 _ rfl
            have p2 := (B11.out.box 0 _ _ rfl).cell 2 _ rfl
            go_wp2_with fail
            have B12 : Hid (_) := bxs_one B11.out
            go_roundg (asksn - (j + 1) + 1)
            case measure => omega
            case rel => exact ⟨j + 1, 3, false, true, _, rfl, by go_num, by omega, by omega, ⟨hE, by simp, by simp⟩, B12.out⟩
      · skip
        rcases tested_safe m p g sv true HI.out with C' | C'
        · have CA : Hid (_) := C'
          clear C'
          go_wp2_with fail
          refine (CA.out _).mono ?_
          rintro r w3 ⟨rfl, hb⟩
          have B8 : Hid (_) := B7.out.step hb
          clear hb B7 CA
          clear pl p0 p1 p2
          have pl := (B8.out.box 0 _ _ rfl).lt
          have p0 := (B8.out.box 0 _ _ rfl).cell 0 _ rfl
          have p1 := (B8.out.box 0 _ _ rfl).cell 1 _ rfl
          have p2 := (B8.out.box 0 _ _ rfl).cell 2 _ rfl
          have pf0 := (B8.out.box 0 _ _ rfl).froz 0 _ rfl
          have pf1 := (B8.out.box 0 _ _ rfl).froz 1 _ rfl
          have pf2 := (B8.out.box 0 _ _ rfl).froz 2 _ rfl
          have nl := (B8.out.box 1 _ _ rfl).lt
          have n0 := (B8.out.box 1 _ _ rfl).cell 0 _ rfl
          have n1 := (B8.out.box 1 _ _ rfl).cell 1 _ rfl
          have n2 := (B8.out.box 1 _ _ rfl).cell 2 _ rfl
          have nf0 := (B8.out.box 1 _ _ rfl).froz 0 _ rfl
          have nf1 := (B8.out.box 1 _ _ rfl).froz 1 _ rfl
          have nf2 := (B8.out.box 1 _ _ rfl).froz 2 _ rfl
          cases sv
          all_goals
            go_wp2_with fail
            obtain ⟨V1, hV1, B9⟩ := B8.out.put3 1 N1 (.int .i64 0) (.bool false) (.bool false) rfl
            rw [hV1]
            have B9' : Hid (_) := bxs_one B9
            clear hV1 B9
            go_roundg (asksn - (j + 1) + 1)
            case measure => omega
            case rel => exact ⟨j + 1, m, p, g, _, rfl, by go_num, by omega, by omega, HI.out, B9'.out⟩
        · have CA : Hid (_) := C'
          clear C'
          go_wp2_with fail
          refine (CA.out _).mono ?_
          rintro r w3 ⟨rfl, hb⟩
          have B8 : Hid (_) := B7.out.step hb
          clear hb B7 CA
          clear pl p0 p1 p2
          have pl := (B8.out.box 0 _ _ rfl).lt
          have p0 := (B8.out.box 0 _ _ rfl).cell 0 _ rfl
          have p1 := (B8.out.box 0 _ _ rfl).cell 1 _ rfl
          have p2 := (B8.out.box 0 _ _ rfl).cell 2 _ rfl
          have pf0 := (B8.out.box 0 _ _ rfl).froz 0 _ rfl
          have pf1 := (B8.out.box 0 _ _ rfl).froz 1 _ rfl
          have pf2 := (B8.out.box 0 _ _ rfl).froz 2 _ rfl
          have nl := (B8.out.box 1 _ _ rfl).lt
          have n0 := (B8.out.box 1 _ _ rfl).cell 0 _ rfl
          have n1 := (B8.out.box 1 _ _ rfl).cell 1 _ rfl
          have n2 := (B8.out.box 1 _ _ rfl).cell 2 _ rfl
          have nf0 := (B8.out.box 1 _ _ rfl).froz 0 _ rfl
          have nf1 := (B8.out.box 1 _ _ rfl).froz 1 _ rfl
          have nf2 := (B8.out.box 1 _ _ rfl).froz 2 _ rfl
          have hE : mE 1 true true = 0 := by simp [mE]
          cases sv
          all_goals
            have CK : Hid (_) := fun W => mcheck_any 1 true true W
            rw [hE] at CK
            go_wp2_with fail
            obtain ⟨V1, hV1, B9⟩ := B8.out.put3 1 N1 (.int .i64 1) (.bool true) (.bool true) rfl
            rw [hV1]
            obtain ⟨V2, hV2, B10'⟩ := B9.put3 0 N (.int .i64 1) (.bool true) (.bool true) rfl
            rw [hV2]
            have B10 : Hid (_) := B10'
            clear hV1 B9 hV2 B10'
            clear pl p0 p1 p2
            clear pf0 pf1 pf2
            clear nl n0 n1 n2
            clear nf0 nf1 nf2
            refine (CK.out _).mono ?_
            rintro r w4 ⟨rfl, hb⟩
            have B11 : Hid (_) := B10.out.step hb
            clear hb B10 CK
            have pl := (B11.out.box 0 _ _ rfl).lt
            have p0 := (B11.out.box 0 _ _ rfl).cell 0 _ rfl
            have p1 := (B11.out.box 0 _ _ rfl).cell 1 _ rfl
            have p2 := (B11.out.box 0 _ _ rfl).cell 2 _ rfl
            go_wp2_with fail
            have B12 : Hid (_) := bxs_one B11.out
            go_roundg (asksn - (j + 1) + 1)
            case measure => omega
            case rel => exact ⟨j + 1, 1, true, true, _, rfl, by go_num, by omega, by omega, ⟨hE, by simp, by simp⟩, B12.out⟩
      · skip
        rcases tested_safe m p g sv false HI.out with C' | C'
        · have CA : Hid (_) := C'
          clear C'
          go_wp2_with fail
          refine (CA.out _).mono ?_
          rintro r w3 ⟨rfl, hb⟩
          have B8 : Hid (_) := B7.out.step hb
          clear hb B7 CA
          clear pl p0 p1 p2
          have pl := (B8.out.box 0 _ _ rfl).lt
          have p0 := (B8.out.box 0 _ _ rfl).cell 0 _ rfl
          have p1 := (B8.out.box 0 _ _ rfl).cell 1 _ rfl
          have p2 := (B8.out.box 0 _ _ rfl).cell 2 _ rfl
          have pf0 := (B8.out.box 0 _ _ rfl).froz 0 _ rfl
          have pf1 := (B8.out.box 0 _ _ rfl).froz 1 _ rfl
          have pf2 := (B8.out.box 0 _ _ rfl).froz 2 _ rfl
          have nl := (B8.out.box 1 _ _ rfl).lt
          have n0 := (B8.out.box 1 _ _ rfl).cell 0 _ rfl
          have n1 := (B8.out.box 1 _ _ rfl).cell 1 _ rfl
          have n2 := (B8.out.box 1 _ _ rfl).cell 2 _ rfl
          have nf0 := (B8.out.box 1 _ _ rfl).froz 0 _ rfl
          have nf1 := (B8.out.box 1 _ _ rfl).froz 1 _ rfl
          have nf2 := (B8.out.box 1 _ _ rfl).froz 2 _ rfl
          cases sv
          all_goals
            go_wp2_with fail
            obtain ⟨V1, hV1, B9⟩ := B8.out.put3 1 N1 (.int .i64 0) (.bool false) (.bool false) rfl
            rw [hV1]
            have B9' : Hid (_) := bxs_one B9
            clear hV1 B9
            go_roundg (asksn - (j + 1) + 1)
            case measure => omega
            case rel => exact ⟨j + 1, m, p, g, _, rfl, by go_num, by omega, by omega, HI.out, B9'.out⟩
        · have CA : Hid (_) := C'
          clear C'
          go_wp2_with fail
          refine (CA.out _).mono ?_
          rintro r w3 ⟨rfl, hb⟩
          have B8 : Hid (_) := B7.out.step hb
          clear hb B7 CA
          clear pl p0 p1 p2
          have pl := (B8.out.box 0 _ _ rfl).lt
          have p0 := (B8.out.box 0 _ _ rfl).cell 0 _ rfl
          have p1 := (B8.out.box 0 _ _ rfl).cell 1 _ rfl
          have p2 := (B8.out.box 0 _ _ rfl).cell 2 _ rfl
          have pf0 := (B8.out.box 0 _ _ rfl).froz 0 _ rfl
          have pf1 := (B8.out.box 0 _ _ rfl).froz 1 _ rfl
          have pf2 := (B8.out.box 0 _ _ rfl).froz 2 _ rfl
          have nl := (B8.out.box 1 _ _ rfl).lt
          have n0 := (B8.out.box 1 _ _ rfl).cell 0 _ rfl
          have n1 := (B8.out.box 1 _ _ rfl).cell 1 _ rfl
          have n2 := (B8.out.box 1 _ _ rfl).cell 2 _ rfl
          have nf0 := (B8.out.box 1 _ _ rfl).froz 0 _ rfl
          have nf1 := (B8.out.box 1 _ _ rfl).froz 1 _ rfl
          have nf2 := (B8.out.box 1 _ _ rfl).froz 2 _ rfl
          have hE : mE 1 false true = 0 := by simp [mE]
          cases sv
          all_goals
            have CK : Hid (_) := fun W => mcheck_any 1 false true W
            rw [hE] at CK
            go_wp2_with fail
            obtain ⟨V1, hV1, B9⟩ := B8.out.put3 1 N1 (.int .i64 1) (.bool false) (.bool true) rfl
            rw [hV1]
            obtain ⟨V2, hV2, B10'⟩ := B9.put3 0 N (.int .i64 1) (.bool false) (.bool true) rfl
            rw [hV2]
            have B10 : Hid (_) := B10'
            clear hV1 B9 hV2 B10'
            clear pl p0 p1 p2
            clear pf0 pf1 pf2
            clear nl n0 n1 n2
            clear nf0 nf1 nf2
            refine (CK.out _).mono ?_
            rintro r w4 ⟨rfl, hb⟩
            have B11 : Hid (_) := B10.out.step hb
            clear hb B10 CK
            have pl := (B11.out.box 0 _ _ rfl).lt
            have p0 := (B11.out.box 0 _ _ rfl).cell 0 _ rfl
            have p1 := (B11.out.box 0 _ _ rfl).cell 1 _ rfl
            have p2 := (B11.out.box 0 _ _ rfl).cell 2 _ rfl
            go_wp2_with fail
            have B12 : Hid (_) := bxs_one B11.out
            go_roundg (asksn - (j + 1) + 1)
            case measure => omega
            case rel => exact ⟨j + 1, 1, false, true, _, rfl, by go_num, by omega, by omega, ⟨hE, by simp, by simp⟩, B12.out⟩
    · have z1 : ¬ (j : Int) < (asksn : Int) := by omega
      go_wp2_with fail
      go_ret
      exact ⟨rfl, HB.out.bel⟩

/-! ### THE ROW's STEP -/
set_option maxRecDepth 100000 in
theorem lifted (os : Os) (started : os.Started) (H : Type) (enc : TypeId × Value → H) :
    ReturnsInHanded {} Try.checked os 4 .any (Rows.modeSafeSpec.pre6 enc Try.prog Try.f4 Rows.modeSafeRow.domain false) (Rows.modeSafeSpec.post enc Try.prog Try.f4 false true false false) := by
  refine returnsInHanded_of_change_sized (C := Try.checked) own started (by kernel_rfl) Try.func4
    (ChangeSpec.witness6 (enc := enc) (C := Try.checked) false ⟨#[], #[.slice none 0 0], []⟩ 8 (by kernel_rfl) (by kernel_rfl) (by kernel_rfl) (by kernel_rfl)) ?_
  intro W base args ds gs before hval0 hW hcnd hsz0 _
  have hval : ∀ (j : Nat) t v, Try.f4.params[j]? = some t → args[j]? = some v → Value.okWide Try.prog W .any base t v := hval0
  have hW' := hW
  obtain ⟨p, q, hA0, hV, rfl, hfz, hnd⟩ := hW
  have hA : DataW.TrodAll enc Try.prog W 0 (fun _ => true) true Try.f4.params.toList args.toList ds p := hA0
  rw [Try.params4] at hA hval
  obtain ⟨v_0, vs_0, d_0, ds_0, p_0, q_0, hargs, rfl, rfl, h_0, r_0⟩ := trodAll_cons hA
  obtain ⟨rfl, rfl, rfl⟩ := trodAll_nil r_0
  obtain rfl : args = #[v_0] := by cases args; simp_all
  obtain ⟨rfl, rfl⟩ := trodVars_none hV
  have hz_0 : Light Try.prog 31 d_0 := light_of hsz0 (j := 0) (by first | rfl | (rw [Try.params4]; rfl)) rfl
  have k_0 := h_0
  have lt_0 : ∀ x ∈ p_0, x.block < W.heap.size := by obtain ⟨m, hm⟩ := k_0; exact DataW.trod_lt m _ _ _ hm
  obtain ⟨asksa, asksn, asksc, rfl⟩ := okWide_slice Try.underlying31 (hval 0 31 v_0 rfl rfl)
  obtain ⟨asks, h_asks⟩ : ∃ l, RowZ .i64 8 W asksa asksn asksc l := by
    obtain ⟨fuel, hf⟩ := h_0
    obtain ⟨a, m, c, l, hcs, hr⟩ := rowZ_of Try.underlying31 Try.underlying3 (by kernel_rfl) (by kernel_rfl) hf hz_0
    simp [Value.cells] at hcs
    obtain ⟨rfl, rfl, rfl⟩ := hcs
    exact ⟨l, hr⟩
  clear hA0 hval0
  refine (walk asksa asksn asksc asks W h_asks).mono fun e W' ⟨he, bel⟩ => ?_
  subst he
  exact ⟨_, rfl, _, _, _, [], _, [], hW', trodAll_mk1 (shut_bool Try.underlying4 _), (trodAll_cons_mk (Below.trod laidOut (by kernel_rfl) (of_decide_eq_true (by kernel_rfl)) k_0 bel lt_0) trodAll_mk0), rfl, bel.frame _, fun h => by cases h⟩

theorem over : Rows.modeSafeRow.holds Try.pinned (OpenSpec.ofChange Rows.modeSafeSpec) :=
  OpenClaim.holds_of_wide 4 Try.f4 rfl rfl rfl rfl rfl rfl rfl ⟨rfl, rfl, rfl, rfl, rfl⟩ rfl rfl rfl rfl rfl (by kernel_rfl) Try.func4 (by kernel_rfl)
    (of_decide_eq_true (by kernel_rfl)) (by unfold Func.isWrapper; first | (rw [if_pos (by decide +kernel)]; kernel_rfl) | (rw [if_neg (by decide +kernel)]; exact ⟨rfl, rfl⟩))
    (fun os started H enc _ => lifted os started H enc)


end Go.Proofs.Ytefbccfnlelogaa.modeSafe
namespace Go.Proofs.Ytefbccfnlelogaa
/-- THE STATEMENT -/
theorem modeSafe_holds : Rows.ModeSafeSaid := modeSafe.over
#print axioms modeSafe_holds
end Go.Proofs.Ytefbccfnlelogaa
