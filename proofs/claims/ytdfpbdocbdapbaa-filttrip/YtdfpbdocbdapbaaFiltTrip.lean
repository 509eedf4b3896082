/-
  Whatever is handed in, the law FiltTrip returns true: between the bounds it stays as it is; above both it is on, below both it isn't. No condition.
-/
import Derived.Test.YtdfpbdocbdapbaaFilt
import Derived.Test.YtdfpbdocbdapbaaOpen
import Derived.ProofKit
namespace Go.Proofs.Ytdfpbdocbdapbaa.filtTrip
open Go.ChangeShapes Go.WideShapes Go.ChangeAt Go.RowKit
set_option linter.unusedVariables false

theorem own : ownKnob Try.prog.godebug = none := by kernel_rfl
theorem laidOut : laidOutB Try.prog = true := by kernel_rfl


def intOf : Value → Int | .int _ n => n | _ => 0

/-- what a call says, of three places of x (below both bounds, between them, above both) -/
theorem trip_tells {high low d t : Int} (h : high < low ∧ t = low ∧ d = high ∨ ¬ high < low ∧ t = high ∧ d = low) (x : Int) :
    (x < d → ∀ on, tripB on x high low = false) ∧ (t < x → ∀ on, tripB on x high low = true) ∧ (d ≤ x → x ≤ t → ∀ on, tripB on x high low = on) := by
  unfold tripB
  rcases h with ⟨h, rfl, rfl⟩ | ⟨h, rfl, rfl⟩
  · rw [if_pos h, if_pos h]
    refine ⟨fun h1 on => ?_, fun h1 on => ?_, fun h1 h2 on => ?_⟩ <;> cases on <;> simp <;> omega
  · rw [if_neg h, if_neg h]
    refine ⟨fun h1 on => ?_, fun h1 on => ?_, fun h1 h2 on => ?_⟩ <;> cases on <;> simp <;> omega

set_option maxHeartbeats 8000000 in
theorem walk_lt (on : Bool) (la : Option Addr) (ln lc : Nat) (l : Nat → Int) (high : Int) (low : Int) (w : World) (h_l : RowK .i32 w la ln lc l) (h : high < low) :
    Calls Try.prog 7 #[.bool on, .slice la ln lc, .int .i32 high, .int .i32 low] w fun e w' => e = .returned (.bool true) ∧ Below w.heap.size w w' := by
  have t1 : ∀ w, Calls Try.prog 20 #[.bool false, .int .i32 9, .int .i32 8, .int .i32 4] w fun e w' => e = .returned (.bool true) ∧ w' = w := fun w => trip_any false 9 8 4 w
  have t2 : ∀ w, Calls Try.prog 20 #[.bool false, .int .i32 6, .int .i32 8, .int .i32 4] w fun e w' => e = .returned (.bool false) ∧ w' = w := fun w => trip_any false 6 8 4 w
  have t3 : ∀ w, Calls Try.prog 20 #[.bool true, .int .i32 6, .int .i32 8, .int .i32 4] w fun e w' => e = .returned (.bool true) ∧ w' = w := fun w => trip_any true 6 8 4 w
  have hT := fun x => trip_tells (high := high) (low := low) (d := high) (t := low) (Or.inl ⟨h, rfl, rfl⟩) x
  obtain ⟨hlc, hc, _, hrow⟩ := h_l
  unfold maxLen at hc
  go_enter Try.func7, Try.ntmps7
  go_wp2_with fail
  refine (t1 _).mono ?_
  rintro e w' ⟨rfl, rfl⟩
  go_wp2_with fail
  refine (t2 _).mono ?_
  rintro e w' ⟨rfl, rfl⟩
  go_wp2_with fail
  refine (t3 _).mono ?_
  rintro e w' ⟨rfl, rfl⟩
  go_wp2_with fail
  clear t1 t2 t3
  go_loop [0, 31] (fun s i => ∃ (o : Bool) (j : Nat), s = .bool o ∧ i = .int .i64 j ∧ j ≤ ln) (fun _ i => ln - (intOf i).toNat)
  case atStart => exact ⟨on, 0, rfl, rfl, by omega⟩
  case round =>
    obtain ⟨o, j, rfl, rfl, hj⟩ := hrel
    by_cases hlt : j < ln
    · obtain ⟨b, off, rfl, hb, hcells⟩ := hrow (by omega)
      have x0 := hcells j hlt
      have j0 : (j : Int) < (ln : Int) := by omega
      obtain ⟨p1, p2, p3⟩ := hT (l j)
      clear hrow hcells hT
      generalize l j = x at *
      rcases Int.lt_or_le x high with hx | hx
      · have c : ∀ w, Calls Try.prog 20 #[.bool o, .int .i32 x, .int .i32 high, .int .i32 low] w fun e w' => e = .returned (.bool false) ∧ w' = w := fun w => by have := trip_any o x high low w; rw [p1 hx o] at this; exact this
        have hx2 : x ≤ low := by omega
        clear p1 p2 p3
        cases o
        all_goals
          go_wp2_with fail
          refine (c _).mono ?_
          rintro e w' ⟨rfl, rfl⟩
          go_wp2_with fail
          go_round
          case rel => exact ⟨_, j + 1, rfl, by go_num, by omega⟩
          case measure => simp [intOf]; omega
      · rcases Int.lt_or_le low x with hx2 | hx2
        · have c : ∀ w, Calls Try.prog 20 #[.bool o, .int .i32 x, .int .i32 high, .int .i32 low] w fun e w' => e = .returned (.bool true) ∧ w' = w := fun w => by have := trip_any o x high low w; rw [p2 hx2 o] at this; exact this
          clear p1 p2 p3
          cases o
          all_goals
            go_wp2_with fail
            refine (c _).mono ?_
            rintro e w' ⟨rfl, rfl⟩
            go_wp2_with fail
            go_round
            case rel => exact ⟨_, j + 1, rfl, by go_num, by omega⟩
            case measure => simp [intOf]; omega
        · have c : ∀ w, Calls Try.prog 20 #[.bool o, .int .i32 x, .int .i32 high, .int .i32 low] w fun e w' => e = .returned (.bool o) ∧ w' = w := fun w => by have := trip_any o x high low w; rw [p3 hx hx2 o] at this; exact this
          clear p1 p2 p3
          cases o
          all_goals
            go_wp2_with fail
            refine (c _).mono ?_
            rintro e w' ⟨rfl, rfl⟩
            go_wp2_with fail
            go_round
            case rel => exact ⟨_, j + 1, rfl, by go_num, by omega⟩
            case measure => simp [intOf]; omega
    · have j0 : ¬ (j : Int) < (ln : Int) := by omega
      go_wp2_with fail
      go_ret
      exact ⟨rfl, Below.refl _ _⟩

set_option maxHeartbeats 8000000 in
theorem walk_gt (on : Bool) (la : Option Addr) (ln lc : Nat) (l : Nat → Int) (high : Int) (low : Int) (w : World) (h_l : RowK .i32 w la ln lc l) (h : low < high) :
    Calls Try.prog 7 #[.bool on, .slice la ln lc, .int .i32 high, .int .i32 low] w fun e w' => e = .returned (.bool true) ∧ Below w.heap.size w w' := by
  have t1 : ∀ w, Calls Try.prog 20 #[.bool false, .int .i32 9, .int .i32 8, .int .i32 4] w fun e w' => e = .returned (.bool true) ∧ w' = w := fun w => trip_any false 9 8 4 w
  have t2 : ∀ w, Calls Try.prog 20 #[.bool false, .int .i32 6, .int .i32 8, .int .i32 4] w fun e w' => e = .returned (.bool false) ∧ w' = w := fun w => trip_any false 6 8 4 w
  have t3 : ∀ w, Calls Try.prog 20 #[.bool true, .int .i32 6, .int .i32 8, .int .i32 4] w fun e w' => e = .returned (.bool true) ∧ w' = w := fun w => trip_any true 6 8 4 w
  have hT := fun x => trip_tells (high := high) (low := low) (d := low) (t := high) (Or.inr ⟨by omega, rfl, rfl⟩) x
  obtain ⟨hlc, hc, _, hrow⟩ := h_l
  unfold maxLen at hc
  go_enter Try.func7, Try.ntmps7
  go_wp2_with fail
  refine (t1 _).mono ?_
  rintro e w' ⟨rfl, rfl⟩
  go_wp2_with fail
  refine (t2 _).mono ?_
  rintro e w' ⟨rfl, rfl⟩
  go_wp2_with fail
  refine (t3 _).mono ?_
  rintro e w' ⟨rfl, rfl⟩
  go_wp2_with fail
  clear t1 t2 t3
  go_loop [0, 31] (fun s i => ∃ (o : Bool) (j : Nat), s = .bool o ∧ i = .int .i64 j ∧ j ≤ ln) (fun _ i => ln - (intOf i).toNat)
  case atStart => exact ⟨on, 0, rfl, rfl, by omega⟩
  case round =>
    obtain ⟨o, j, rfl, rfl, hj⟩ := hrel
    by_cases hlt : j < ln
    · obtain ⟨b, off, rfl, hb, hcells⟩ := hrow (by omega)
      have x0 := hcells j hlt
      have j0 : (j : Int) < (ln : Int) := by omega
      obtain ⟨p1, p2, p3⟩ := hT (l j)
      clear hrow hcells hT
      generalize l j = x at *
      rcases Int.lt_or_le x low with hx | hx
      · have c : ∀ w, Calls Try.prog 20 #[.bool o, .int .i32 x, .int .i32 high, .int .i32 low] w fun e w' => e = .returned (.bool false) ∧ w' = w := fun w => by have := trip_any o x high low w; rw [p1 hx o] at this; exact this
        have hx2 : x ≤ high := by omega
        clear p1 p2 p3
        cases o
        all_goals
          go_wp2_with fail
          refine (c _).mono ?_
          rintro e w' ⟨rfl, rfl⟩
          go_wp2_with fail
          go_round
          case rel => exact ⟨_, j + 1, rfl, by go_num, by omega⟩
          case measure => simp [intOf]; omega
      · rcases Int.lt_or_le high x with hx2 | hx2
        · have c : ∀ w, Calls Try.prog 20 #[.bool o, .int .i32 x, .int .i32 high, .int .i32 low] w fun e w' => e = .returned (.bool true) ∧ w' = w := fun w => by have := trip_any o x high low w; rw [p2 hx2 o] at this; exact this
          clear p1 p2 p3
          cases o
          all_goals
            go_wp2_with fail
            refine (c _).mono ?_
            rintro e w' ⟨rfl, rfl⟩
            go_wp2_with fail
            go_round
            case rel => exact ⟨_, j + 1, rfl, by go_num, by omega⟩
            case measure => simp [intOf]; omega
        · have c : ∀ w, Calls Try.prog 20 #[.bool o, .int .i32 x, .int .i32 high, .int .i32 low] w fun e w' => e = .returned (.bool o) ∧ w' = w := fun w => by have := trip_any o x high low w; rw [p3 hx hx2 o] at this; exact this
          clear p1 p2 p3
          cases o
          all_goals
            go_wp2_with fail
            refine (c _).mono ?_
            rintro e w' ⟨rfl, rfl⟩
            go_wp2_with fail
            go_round
            case rel => exact ⟨_, j + 1, rfl, by go_num, by omega⟩
            case measure => simp [intOf]; omega
    · have j0 : ¬ (j : Int) < (ln : Int) := by omega
      go_wp2_with fail
      go_ret
      exact ⟨rfl, Below.refl _ _⟩

set_option maxHeartbeats 8000000 in
theorem walk_eq (on : Bool) (la : Option Addr) (ln lc : Nat) (l : Nat → Int) (high : Int) (low : Int) (w : World) (h_l : RowK .i32 w la ln lc l) (h : high = low) :
    Calls Try.prog 7 #[.bool on, .slice la ln lc, .int .i32 high, .int .i32 low] w fun e w' => e = .returned (.bool true) ∧ Below w.heap.size w w' := by
  have t1 : ∀ w, Calls Try.prog 20 #[.bool false, .int .i32 9, .int .i32 8, .int .i32 4] w fun e w' => e = .returned (.bool true) ∧ w' = w := fun w => trip_any false 9 8 4 w
  have t2 : ∀ w, Calls Try.prog 20 #[.bool false, .int .i32 6, .int .i32 8, .int .i32 4] w fun e w' => e = .returned (.bool false) ∧ w' = w := fun w => trip_any false 6 8 4 w
  have t3 : ∀ w, Calls Try.prog 20 #[.bool true, .int .i32 6, .int .i32 8, .int .i32 4] w fun e w' => e = .returned (.bool true) ∧ w' = w := fun w => trip_any true 6 8 4 w
  subst h
  have hT := fun x => trip_tells (high := high) (low := high) (d := high) (t := high) (Or.inr ⟨by omega, rfl, rfl⟩) x
  obtain ⟨hlc, hc, _, hrow⟩ := h_l
  unfold maxLen at hc
  go_enter Try.func7, Try.ntmps7
  go_wp2_with fail
  refine (t1 _).mono ?_
  rintro e w' ⟨rfl, rfl⟩
  go_wp2_with fail
  refine (t2 _).mono ?_
  rintro e w' ⟨rfl, rfl⟩
  go_wp2_with fail
  refine (t3 _).mono ?_
  rintro e w' ⟨rfl, rfl⟩
  go_wp2_with fail
  clear t1 t2 t3
  go_loop [0, 31] (fun s i => ∃ (o : Bool) (j : Nat), s = .bool o ∧ i = .int .i64 j ∧ j ≤ ln) (fun _ i => ln - (intOf i).toNat)
  case atStart => exact ⟨on, 0, rfl, rfl, by omega⟩
  case round =>
    obtain ⟨o, j, rfl, rfl, hj⟩ := hrel
    by_cases hlt : j < ln
    · obtain ⟨b, off, rfl, hb, hcells⟩ := hrow (by omega)
      have x0 := hcells j hlt
      have j0 : (j : Int) < (ln : Int) := by omega
      obtain ⟨p1, p2, p3⟩ := hT (l j)
      clear hrow hcells hT
      generalize l j = x at *
      rcases Int.lt_or_le x high with hx | hx
      · have c : ∀ w, Calls Try.prog 20 #[.bool o, .int .i32 x, .int .i32 high, .int .i32 high] w fun e w' => e = .returned (.bool false) ∧ w' = w := fun w => by have := trip_any o x high high w; rw [p1 hx o] at this; exact this
        have hx2 : x ≤ high := by omega
        clear p1 p2 p3
        cases o
        all_goals
          go_wp2_with fail
          refine (c _).mono ?_
          rintro e w' ⟨rfl, rfl⟩
          go_wp2_with fail
          go_round
          case rel => exact ⟨_, j + 1, rfl, by go_num, by omega⟩
          case measure => simp [intOf]; omega
      · rcases Int.lt_or_le high x with hx2 | hx2
        · have c : ∀ w, Calls Try.prog 20 #[.bool o, .int .i32 x, .int .i32 high, .int .i32 high] w fun e w' => e = .returned (.bool true) ∧ w' = w := fun w => by have := trip_any o x high high w; rw [p2 hx2 o] at this; exact this
          clear p1 p2 p3
          cases o
          all_goals
            go_wp2_with fail
            refine (c _).mono ?_
            rintro e w' ⟨rfl, rfl⟩
            go_wp2_with fail
            go_round
            case rel => exact ⟨_, j + 1, rfl, by go_num, by omega⟩
            case measure => simp [intOf]; omega
        · have c : ∀ w, Calls Try.prog 20 #[.bool o, .int .i32 x, .int .i32 high, .int .i32 high] w fun e w' => e = .returned (.bool o) ∧ w' = w := fun w => by have := trip_any o x high high w; rw [p3 hx hx2 o] at this; exact this
          clear p1 p2 p3
          cases o
          all_goals
            go_wp2_with fail
            refine (c _).mono ?_
            rintro e w' ⟨rfl, rfl⟩
            go_wp2_with fail
            go_round
            case rel => exact ⟨_, j + 1, rfl, by go_num, by omega⟩
            case measure => simp [intOf]; omega
    · have j0 : ¬ (j : Int) < (ln : Int) := by omega
      go_wp2_with fail
      go_ret
      exact ⟨rfl, Below.refl _ _⟩

theorem walk (on : Bool) (la : Option Addr) (ln lc : Nat) (l : Nat → Int) (high : Int) (low : Int) (w : World) (h_l : RowK .i32 w la ln lc l) (h_high : (Lit.int .i32 high).wf = true) (h_low : (Lit.int .i32 low).wf = true) :
    Calls Try.prog 7 #[.bool on, .slice la ln lc, .int .i32 high, .int .i32 low] w fun e w' => e = .returned (.bool true) ∧ Below w.heap.size w w' := by
  rcases Int.lt_trichotomy high low with h | h | h
  · exact walk_lt on la ln lc l high low w h_l h
  · exact walk_eq on la ln lc l high low w h_l h
  · exact walk_gt on la ln lc l high low w h_l h

/-! ### THE ROW's STEP -/
set_option maxRecDepth 100000 in
theorem lifted (os : Os) (started : os.Started) (H : Type) (enc : TypeId × Value → H) :
    ReturnsInHanded {} Try.checked os 7 .any (Rows.filtTripSpec.pre6 enc Try.prog Try.f7 Rows.filtTripRow.domain false) (Rows.filtTripSpec.post enc Try.prog Try.f7 false true false false) := by
  refine returnsInHanded_of_change (C := Try.checked) own started (by kernel_rfl) Try.func7
    (ChangeSpec.witness6 (enc := enc) (C := Try.checked) false ⟨#[], #[.bool false, .slice none 0 0, .int .i32 0, .int .i32 0], []⟩ 8 (by kernel_rfl) (by kernel_rfl) (by kernel_rfl) (by kernel_rfl)) ?_
  intro W base args ds gs before hval0 hW hcnd _
  have hval : ∀ (j : Nat) t v, Try.f7.params[j]? = some t → args[j]? = some v → Value.okWide Try.prog W .any base t v := hval0
  have hW' := hW
  obtain ⟨p, q, hA0, hV, rfl, hfz, hnd⟩ := hW
  have hA : DataW.TrodAll enc Try.prog W 0 (fun _ => true) true Try.f7.params.toList args.toList ds p := hA0
  rw [Try.params7] at hA hval
  obtain ⟨v0, vs0, d0, ds0, p0, q0, hargs, rfl, rfl, h0, r0⟩ := trodAll_cons hA
  obtain ⟨v1, vs1, d1, ds1, p1, q1, rfl, rfl, rfl, h1, r1⟩ := trodAll_cons r0
  obtain ⟨v2, vs2, d2, ds2, p2, q2, rfl, rfl, rfl, h2, r2⟩ := trodAll_cons r1
  obtain ⟨v3, vs3, d3, ds3, p3, q3, rfl, rfl, rfl, h3, r3⟩ := trodAll_cons r2
  obtain ⟨rfl, rfl, rfl⟩ := trodAll_nil r3
  obtain rfl : args = #[v0, v1, v2, v3] := by cases args; simp_all
  obtain ⟨rfl, rfl⟩ := trodVars_none hV
  have k0 := h0
  have lt0 : ∀ x ∈ p0, x.block < W.heap.size := by obtain ⟨m, hm⟩ := k0; exact DataW.trod_lt m _ _ _ hm
  obtain ⟨on, rfl, rfl, rfl⟩ := open_bool Try.underlying4 (hval 0 4 v0 rfl rfl) h0
  have k1 := h1
  have lt1 : ∀ x ∈ p1, x.block < W.heap.size := by obtain ⟨m, hm⟩ := k1; exact DataW.trod_lt m _ _ _ hm
  obtain ⟨la, ln, lc, rfl⟩ := okWide_slice Try.underlying22 (hval 1 22 v1 rfl rfl)
  obtain ⟨l, h_l⟩ : ∃ l, RowK .i32 W la ln lc l := by
    obtain ⟨fuel, hf⟩ := h1
    obtain ⟨a, m, c, l, hcs, hr⟩ := rowK_of Try.underlying22 Try.underlying21 (by kernel_rfl) hf
    simp [Value.cells] at hcs
    obtain ⟨rfl, rfl, rfl⟩ := hcs
    exact ⟨l, hr⟩
  have k2 := h2
  have lt2 : ∀ x ∈ p2, x.block < W.heap.size := by obtain ⟨m, hm⟩ := k2; exact DataW.trod_lt m _ _ _ hm
  obtain ⟨high, rfl, rfl, rfl, h_high⟩ := open_int Try.underlying21 (hval 2 21 v2 rfl rfl) h2
  have k3 := h3
  have lt3 : ∀ x ∈ p3, x.block < W.heap.size := by obtain ⟨m, hm⟩ := k3; exact DataW.trod_lt m _ _ _ hm
  obtain ⟨low, rfl, rfl, rfl, h_low⟩ := open_int Try.underlying21 (hval 3 21 v3 rfl rfl) h3
  clear hA0 hval0
  refine (walk on la ln lc l high low W h_l h_high h_low).mono fun e W' ⟨he, bel⟩ => ?_
  subst he
  exact ⟨_, rfl, _, _, _, [], _, [], hW', trodAll_mk1 (shut_bool Try.underlying4 _), (trodAll_cons_mk (Below.trod laidOut (by kernel_rfl) (of_decide_eq_true (by kernel_rfl)) k0 bel lt0) (trodAll_cons_mk (Below.trod laidOut (by kernel_rfl) (of_decide_eq_true (by kernel_rfl)) k1 bel lt1) (trodAll_cons_mk (Below.trod laidOut (by kernel_rfl) (of_decide_eq_true (by kernel_rfl)) k2 bel lt2) (trodAll_cons_mk (Below.trod laidOut (by kernel_rfl) (of_decide_eq_true (by kernel_rfl)) k3 bel lt3) trodAll_mk0)))), rfl, bel.frame _, fun h => by cases h⟩

theorem over : Rows.filtTripRow.holds Try.pinned (OpenSpec.ofChange Rows.filtTripSpec) :=
  OpenClaim.holds_of_wide 7 Try.f7 rfl rfl rfl rfl rfl rfl rfl ⟨rfl, rfl, rfl, rfl, rfl⟩ rfl rfl rfl rfl rfl (by kernel_rfl) Try.func7 (by kernel_rfl)
    (of_decide_eq_true (by kernel_rfl)) (by unfold Func.isWrapper; first | (rw [if_pos (by decide +kernel)]; kernel_rfl) | (rw [if_neg (by decide +kernel)]; exact ⟨rfl, rfl⟩))
    (fun os started H enc _ => lifted os started H enc)


end Go.Proofs.Ytdfpbdocbdapbaa.filtTrip
namespace Go.Proofs.Ytdfpbdocbdapbaa
/-- THE STATEMENT -/
theorem filtTrip_holds : Rows.FiltTripSaid := filtTrip.over
#print axioms filtTrip_holds
end Go.Proofs.Ytdfpbdocbdapbaa
