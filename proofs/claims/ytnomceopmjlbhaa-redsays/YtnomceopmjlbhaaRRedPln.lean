/-
  Contracts of the document's TeamErr and Plan over letters. Of the memory that was there nothing turns.
-/
import Derived.Test.YtnomceopmjlbhaaRedUse
namespace Go.Proofs.Ytnomceopmjlbhaa
open Go.RowKit
set_option linter.unusedVariables false

theorem bxs_six (w : World) (a b c d e f : Array Value) (t1 t2 t3 t4 t5 t6 : TypeId) : Bxs w [(w.heap.size, a.toList), (w.heap.size + 1, b.toList), (w.heap.size + 1 + 1, c.toList), (w.heap.size + 1 + 1 + 1, d.toList), (w.heap.size + 1 + 1 + 1 + 1, e.toList), (w.heap.size + 1 + 1 + 1 + 1 + 1, f.toList)] ((((((w.alloc (.cells a t1)).alloc (.cells b t2)).alloc (.cells c t3)).alloc (.cells d t4)).alloc (.cells e t5)).alloc (.cells f t6)) := by
  have := ((((((bxs_nil w).push a t1).push b t2).push c t3).push d t4).push e t5).push f t6
  simp only [lay_size] at this
  exact this

set_option maxHeartbeats 8000000 in
theorem dcheck_core (t : Nat → St) (E : Nat → Int) (w : World) (HC : Hid (∀ j, j < 4 → ∀ W, Calls Try.prog 19 #[.agg #[.int .i64 (t j).m, .bool (t j).f, .int .i64 (t j).n]] W fun r w' => r = .returned (.int .i64 (E j)) ∧ Below W.heap.size W w')) (HE : Hid (∀ j, j < 4 → E j = 0 ∨ E j = 1 ∨ E j = 4)) :
    Calls Try.prog 7 #[.agg #[.int .i64 (t 0).m, .bool (t 0).f, .int .i64 (t 0).n, .int .i64 (t 1).m, .bool (t 1).f, .int .i64 (t 1).n, .int .i64 (t 2).m, .bool (t 2).f, .int .i64 (t 2).n, .int .i64 (t 3).m, .bool (t 3).f, .int .i64 (t 3).n]] w fun r w' => r = .returned (.int .i64 (frE E)) ∧ Below w.heap.size w w' := by
  have B0 : Hid (_) := bxs_one1 w #[.int .i64 (t 0).m, .bool (t 0).f, .int .i64 (t 0).n, .int .i64 (t 1).m, .bool (t 1).f, .int .i64 (t 1).n, .int .i64 (t 2).m, .bool (t 2).f, .int .i64 (t 2).n, .int .i64 (t 3).m, .bool (t 3).f, .int .i64 (t 3).n] 25
  go_enter Try.func7, Try.ntmps7
  go_wp2_with fail
  go_loopg [5] (5) (fun g s wr => ∃ j : Nat, s = .int .i64 j ∧ 4 - j < g ∧ j ≤ 4 ∧ Hid (∀ i, i < j → E i = 0) ∧ Hid (Bxs w [(w.heap.size, [.int .i64 (t 0).m, .bool (t 0).f, .int .i64 (t 0).n, .int .i64 (t 1).m, .bool (t 1).f, .int .i64 (t 1).n, .int .i64 (t 2).m, .bool (t 2).f, .int .i64 (t 2).n, .int .i64 (t 3).m, .bool (t 3).f, .int .i64 (t 3).n])] wr))
  case atStart => exact ⟨0, rfl, by omega, by omega, fun i hi => absurd hi (by omega), B0.out⟩
  case round =>
    obtain ⟨j, rfl, hg, hj, HZ, HB⟩ := hrel
    clear B0
    by_cases hlt : j < 4
    · obtain rfl | rfl | rfl | rfl := cases4 hlt
      · have CK : Hid (_) := HC.out 0 (by omega)
        have cl := (HB.out.box 0 _ _ rfl).lt
        have c0 := (HB.out.box 0 _ _ rfl).cell 0 _ rfl
        have c1 := (HB.out.box 0 _ _ rfl).cell 1 _ rfl
        have c2 := (HB.out.box 0 _ _ rfl).cell 2 _ rfl
        have c3 := (HB.out.box 0 _ _ rfl).cell 3 _ rfl
        have c4 := (HB.out.box 0 _ _ rfl).cell 4 _ rfl
        have c5 := (HB.out.box 0 _ _ rfl).cell 5 _ rfl
        have c6 := (HB.out.box 0 _ _ rfl).cell 6 _ rfl
        have c7 := (HB.out.box 0 _ _ rfl).cell 7 _ rfl
        have c8 := (HB.out.box 0 _ _ rfl).cell 8 _ rfl
        have c9 := (HB.out.box 0 _ _ rfl).cell 9 _ rfl
        have c10 := (HB.out.box 0 _ _ rfl).cell 10 _ rfl
        have c11 := (HB.out.box 0 _ _ rfl).cell 11 _ rfl
        go_wp2_with fail
        refine (CK.out _).mono ?_
        rintro r w5 ⟨rfl, hb⟩
        have HB2 : Hid (_) := HB.out.step hb
        clear hb HB CK
        clear cl c0 c1 c2 c3 c4 c5 c6 c7 c8 c9 c10 c11
        rcases HE.out 0 (by omega) with he | he | he
        · have HN : Hid (_) := upTo_next HZ.out he
          rw [he]
          clear he
          go_wp2_with fail
          go_roundg (4 - (0 + 1) + 1)
          case measure => omega
          case rel => exact ⟨1, rfl, by omega, by omega, HN.out, HB2.out⟩
        · have HN : Hid (frE E = 1) := (frE_at (j := 0) (by omega) HZ.out (by omega)).trans he
          rw [he]
          clear he
          go_wp2_with fail
          go_returns
          exact ⟨by rw [HN.out]; rfl, HB2.out.bel⟩
        · have HN : Hid (frE E = 4) := (frE_at (j := 0) (by omega) HZ.out (by omega)).trans he
          rw [he]
          clear he
          go_wp2_with fail
          go_returns
          exact ⟨by rw [HN.out]; rfl, HB2.out.bel⟩
      · have CK : Hid (_) := HC.out 1 (by omega)
        have cl := (HB.out.box 0 _ _ rfl).lt
        have c0 := (HB.out.box 0 _ _ rfl).cell 0 _ rfl
        have c1 := (HB.out.box 0 _ _ rfl).cell 1 _ rfl
        have c2 := (HB.out.box 0 _ _ rfl).cell 2 _ rfl
        have c3 := (HB.out.box 0 _ _ rfl).cell 3 _ rfl
        have c4 := (HB.out.box 0 _ _ rfl).cell 4 _ rfl
        have c5 := (HB.out.box 0 _ _ rfl).cell 5 _ rfl
        have c6 := (HB.out.box 0 _ _ rfl).cell 6 _ rfl
        have c7 := (HB.out.box 0 _ _ rfl).cell 7 _ rfl
        have c8 := (HB.out.box 0 _ _ rfl).cell 8 _ rfl
        have c9 := (HB.out.box 0 _ _ rfl).cell 9 _ rfl
        have c10 := (HB.out.box 0 _ _ rfl).cell 10 _ rfl
        have c11 := (HB.out.box 0 _ _ rfl).cell 11 _ rfl
        go_wp2_with fail
        refine (CK.out _).mono ?_
        rintro r w5 ⟨rfl, hb⟩
        have HB2 : Hid (_) := HB.out.step hb
        clear hb HB CK
        clear cl c0 c1 c2 c3 c4 c5 c6 c7 c8 c9 c10 c11
        rcases HE.out 1 (by omega) with he | he | he
        · have HN : Hid (_) := upTo_next HZ.out he
          rw [he]
          clear he
          go_wp2_with fail
          go_roundg (4 - (1 + 1) + 1)
          case measure => omega
          case rel => exact ⟨2, rfl, by omega, by omega, HN.out, HB2.out⟩
        · have HN : Hid (frE E = 1) := (frE_at (j := 1) (by omega) HZ.out (by omega)).trans he
          rw [he]
          clear he
          go_wp2_with fail
          go_returns
          exact ⟨by rw [HN.out]; rfl, HB2.out.bel⟩
        · have HN : Hid (frE E = 4) := (frE_at (j := 1) (by omega) HZ.out (by omega)).trans he
          rw [he]
          clear he
          go_wp2_with fail
          go_returns
          exact ⟨by rw [HN.out]; rfl, HB2.out.bel⟩
      · have CK : Hid (_) := HC.out 2 (by omega)
        have cl := (HB.out.box 0 _ _ rfl).lt
        have c0 := (HB.out.box 0 _ _ rfl).cell 0 _ rfl
        have c1 := (HB.out.box 0 _ _ rfl).cell 1 _ rfl
        have c2 := (HB.out.box 0 _ _ rfl).cell 2 _ rfl
        have c3 := (HB.out.box 0 _ _ rfl).cell 3 _ rfl
        have c4 := (HB.out.box 0 _ _ rfl).cell 4 _ rfl
        have c5 := (HB.out.box 0 _ _ rfl).cell 5 _ rfl
        have c6 := (HB.out.box 0 _ _ rfl).cell 6 _ rfl
        have c7 := (HB.out.box 0 _ _ rfl).cell 7 _ rfl
        have c8 := (HB.out.box 0 _ _ rfl).cell 8 _ rfl
        have c9 := (HB.out.box 0 _ _ rfl).cell 9 _ rfl
        have c10 := (HB.out.box 0 _ _ rfl).cell 10 _ rfl
        have c11 := (HB.out.box 0 _ _ rfl).cell 11 _ rfl
        go_wp2_with fail
        refine (CK.out _).mono ?_
        rintro r w5 ⟨rfl, hb⟩
        have HB2 : Hid (_) := HB.out.step hb
        clear hb HB CK
        clear cl c0 c1 c2 c3 c4 c5 c6 c7 c8 c9 c10 c11
        rcases HE.out 2 (by omega) with he | he | he
        · have HN : Hid (_) := upTo_next HZ.out he
          rw [he]
          clear he
          go_wp2_with fail
          go_roundg (4 - (2 + 1) + 1)
          case measure => omega
          case rel => exact ⟨3, rfl, by omega, by omega, HN.out, HB2.out⟩
        · have HN : Hid (frE E = 1) := (frE_at (j := 2) (by omega) HZ.out (by omega)).trans he
          rw [he]
          clear he
          go_wp2_with fail
          go_returns
          exact ⟨by rw [HN.out]; rfl, HB2.out.bel⟩
        · have HN : Hid (frE E = 4) := (frE_at (j := 2) (by omega) HZ.out (by omega)).trans he
          rw [he]
          clear he
          go_wp2_with fail
          go_returns
          exact ⟨by rw [HN.out]; rfl, HB2.out.bel⟩
      · have CK : Hid (_) := HC.out 3 (by omega)
        have cl := (HB.out.box 0 _ _ rfl).lt
        have c0 := (HB.out.box 0 _ _ rfl).cell 0 _ rfl
        have c1 := (HB.out.box 0 _ _ rfl).cell 1 _ rfl
        have c2 := (HB.out.box 0 _ _ rfl).cell 2 _ rfl
        have c3 := (HB.out.box 0 _ _ rfl).cell 3 _ rfl
        have c4 := (HB.out.box 0 _ _ rfl).cell 4 _ rfl
        have c5 := (HB.out.box 0 _ _ rfl).cell 5 _ rfl
        have c6 := (HB.out.box 0 _ _ rfl).cell 6 _ rfl
        have c7 := (HB.out.box 0 _ _ rfl).cell 7 _ rfl
        have c8 := (HB.out.box 0 _ _ rfl).cell 8 _ rfl
        have c9 := (HB.out.box 0 _ _ rfl).cell 9 _ rfl
        have c10 := (HB.out.box 0 _ _ rfl).cell 10 _ rfl
        have c11 := (HB.out.box 0 _ _ rfl).cell 11 _ rfl
        go_wp2_with fail
        refine (CK.out _).mono ?_
        rintro r w5 ⟨rfl, hb⟩
        have HB2 : Hid (_) := HB.out.step hb
        clear hb HB CK
        clear cl c0 c1 c2 c3 c4 c5 c6 c7 c8 c9 c10 c11
        rcases HE.out 3 (by omega) with he | he | he
        · have HN : Hid (_) := upTo_next HZ.out he
          rw [he]
          clear he
          go_wp2_with fail
          go_roundg (4 - (3 + 1) + 1)
          case measure => omega
          case rel => exact ⟨4, rfl, by omega, by omega, HN.out, HB2.out⟩
        · have HN : Hid (frE E = 1) := (frE_at (j := 3) (by omega) HZ.out (by omega)).trans he
          rw [he]
          clear he
          go_wp2_with fail
          go_returns
          exact ⟨by rw [HN.out]; rfl, HB2.out.bel⟩
        · have HN : Hid (frE E = 4) := (frE_at (j := 3) (by omega) HZ.out (by omega)).trans he
          rw [he]
          clear he
          go_wp2_with fail
          go_returns
          exact ⟨by rw [HN.out]; rfl, HB2.out.bel⟩
    · obtain rfl : j = 4 := by omega
      go_wp2_with fail
      go_returns
      exact ⟨by rw [frE_none HZ.out]; rfl, HB.out.bel⟩
theorem dcheck_any (t : Nat → St) (w : World) : Calls Try.prog 7 #[.agg #[.int .i64 (t 0).m, .bool (t 0).f, .int .i64 (t 0).n, .int .i64 (t 1).m, .bool (t 1).f, .int .i64 (t 1).n, .int .i64 (t 2).m, .bool (t 2).f, .int .i64 (t 2).n, .int .i64 (t 3).m, .bool (t 3).f, .int .i64 (t 3).n]] w fun r w' => r = .returned (.int .i64 (teE t)) ∧ Below w.heap.size w w' :=
  dcheck_core t (fun j => sE (t j)) w (fun j _ W => rlerr_any (t j).m (t j).f (t j).n W) (fun j _ => by
    rcases lE_cases (t j).m (t j).f (t j).n with h | h | h
    · exact Or.inr (Or.inl h)
    · exact Or.inr (Or.inr h)
    · exact Or.inl h)

/-- what happens to a lane behind Usable: nothing may be used, or it is damped, or it isn't -/
def Evs (n : Nat) (s c : St) : Prop :=
  (n = 0 ∧ ∀ W, Calls Try.prog 16 #[.agg #[.int .i64 s.m, .bool s.f, .int .i64 s.n], .int .i64 5] W fun r w' => r = .returned (.agg #[.int .i64 c.m, .bool c.f, .int .i64 c.n]) ∧ Below W.heap.size W w') ∨ (((n : Int) == 0) = false ∧ (s.m == 3) = true ∧ ∀ W, Calls Try.prog 16 #[.agg #[.int .i64 s.m, .bool s.f, .int .i64 s.n], .int .i64 6] W fun r w' => r = .returned (.agg #[.int .i64 c.m, .bool c.f, .int .i64 c.n]) ∧ Below W.heap.size W w') ∨ (((n : Int) == 0) = false ∧ (s.m == 3) = false ∧ c = s)

set_option maxHeartbeats 64000000 in
set_option maxRecDepth 100000 in
theorem dplan_core (t a s y : Nat → St) (A : Nat → Nat → St) (o f : Nat → Bool) (U : Nat → Nat) (n : Nat) (l : Bool) (w : World) (hn4 : n ≤ 4) (hl : l = ((n : Int) == 0))
    (HA : Hid (∀ j, j < 4 → (f j = true ∧ ∀ W, Calls Try.prog 16 #[.agg #[.int .i64 (t j).m, .bool (t j).f, .int .i64 (t j).n], .int .i64 3] W fun r w' => r = .returned (.agg #[.int .i64 (a j).m, .bool (a j).f, .int .i64 (a j).n]) ∧ Below W.heap.size W w') ∨ (f j = false ∧ a j = t j)))
    (HS : Hid (∀ j, j < 4 → (o j = false ∧ ∀ W, Calls Try.prog 16 #[.agg #[.int .i64 (a j).m, .bool (a j).f, .int .i64 (a j).n], .int .i64 4] W fun r w' => r = .returned (.agg #[.int .i64 (s j).m, .bool (s j).f, .int .i64 (s j).n]) ∧ Below W.heap.size W w') ∨ (o j = true ∧ s j = a j)))
    (CU : Hid (∀ W, Calls Try.prog 14 #[.agg #[.int .i64 (s 0).m, .bool (s 0).f, .int .i64 (s 0).n, .int .i64 (s 1).m, .bool (s 1).f, .int .i64 (s 1).n, .int .i64 (s 2).m, .bool (s 2).f, .int .i64 (s 2).n, .int .i64 (s 3).m, .bool (s 3).f, .int .i64 (s 3).n], .agg #[.bool (o 0), .bool (o 1), .bool (o 2), .bool (o 3)]] W fun e w' => ∃ a c, e = .returned (.slice a n c) ∧ RB W.heap.size w' a n U ∧ Below W.heap.size W w'))
    (HE : Hid (∀ j, j < 4 → Evs n (s j) (A 0 j)))
    (HM : Hid (∀ q, q < n → U q < 4 ∧ A (q + 1) = putS (A q) (U q) (A (q + 1) (U q)) ∧ ∀ W, Calls Try.prog 16 #[.agg #[.int .i64 (A q (U q)).m, .bool (A q (U q)).f, .int .i64 (A q (U q)).n], .int .i64 (evA q)] W fun r w' => r = .returned (.agg #[.int .i64 (A (q + 1) (U q)).m, .bool (A (q + 1) (U q)).f, .int .i64 (A (q + 1) (U q)).n]) ∧ Below W.heap.size W w'))
    (HI : Hid (∀ j, j < 4 → 0 ≤ (t j).n ∧ (t j).n ≤ 10000))
    (HY : Hid (∀ j, j < 4 → (((A n j).m == (t j).m) = true ∧ y j = ⟨(A n j).m, (A n j).f, (tkI (t j).n)⟩) ∨ (((A n j).m == (t j).m) = false ∧ y j = ⟨(A n j).m, (A n j).f, 0⟩))) :
    Calls Try.prog 15 #[.agg #[.int .i64 (t 0).m, .bool (t 0).f, .int .i64 (t 0).n, .int .i64 (t 1).m, .bool (t 1).f, .int .i64 (t 1).n, .int .i64 (t 2).m, .bool (t 2).f, .int .i64 (t 2).n, .int .i64 (t 3).m, .bool (t 3).f, .int .i64 (t 3).n], .agg #[.bool (o 0), .bool (o 1), .bool (o 2), .bool (o 3)], .agg #[.bool (f 0), .bool (f 1), .bool (f 2), .bool (f 3)]] w fun r w' => r = .returned (.tuple #[.agg #[.int .i64 (y 0).m, .bool (y 0).f, .int .i64 (y 0).n, .int .i64 (y 1).m, .bool (y 1).f, .int .i64 (y 1).n, .int .i64 (y 2).m, .bool (y 2).f, .int .i64 (y 2).n, .int .i64 (y 3).m, .bool (y 3).f, .int .i64 (y 3).n], .agg #[.int .i64 n, .int .i64 (acN y 4), .bool l]]) ∧ Below w.heap.size w w' := by
  have B0 : Hid (Bxs w [(w.heap.size, [.int .i64 (t 0).m, .bool (t 0).f, .int .i64 (t 0).n, .int .i64 (t 1).m, .bool (t 1).f, .int .i64 (t 1).n, .int .i64 (t 2).m, .bool (t 2).f, .int .i64 (t 2).n, .int .i64 (t 3).m, .bool (t 3).f, .int .i64 (t 3).n]), (w.heap.size + 1, [.bool (o 0), .bool (o 1), .bool (o 2), .bool (o 3)]), (w.heap.size + 1 + 1, [.bool (f 0), .bool (f 1), .bool (f 2), .bool (f 3)]), (w.heap.size + 1 + 1 + 1, [.int .i64 0, .bool false, .int .i64 0, .int .i64 0, .bool false, .int .i64 0, .int .i64 0, .bool false, .int .i64 0, .int .i64 0, .bool false, .int .i64 0]), (w.heap.size + 1 + 1 + 1 + 1, [.int .i64 0, .int .i64 0, .bool false]), (w.heap.size + 1 + 1 + 1 + 1 + 1, [.int .i64 ((upS 0 t s) 0).m, .bool ((upS 0 t s) 0).f, .int .i64 ((upS 0 t s) 0).n, .int .i64 ((upS 0 t s) 1).m, .bool ((upS 0 t s) 1).f, .int .i64 ((upS 0 t s) 1).n, .int .i64 ((upS 0 t s) 2).m, .bool ((upS 0 t s) 2).f, .int .i64 ((upS 0 t s) 2).n, .int .i64 ((upS 0 t s) 3).m, .bool ((upS 0 t s) 3).f, .int .i64 ((upS 0 t s) 3).n])] _) := bxs_six w #[.int .i64 (t 0).m, .bool (t 0).f, .int .i64 (t 0).n, .int .i64 (t 1).m, .bool (t 1).f, .int .i64 (t 1).n, .int .i64 (t 2).m, .bool (t 2).f, .int .i64 (t 2).n, .int .i64 (t 3).m, .bool (t 3).f, .int .i64 (t 3).n] #[.bool (o 0), .bool (o 1), .bool (o 2), .bool (o 3)] #[.bool (f 0), .bool (f 1), .bool (f 2), .bool (f 3)] #[.int .i64 0, .bool false, .int .i64 0, .int .i64 0, .bool false, .int .i64 0, .int .i64 0, .bool false, .int .i64 0, .int .i64 0, .bool false, .int .i64 0] #[.int .i64 0, .int .i64 0, .bool false] #[.int .i64 (t 0).m, .bool (t 0).f, .int .i64 (t 0).n, .int .i64 (t 1).m, .bool (t 1).f, .int .i64 (t 1).n, .int .i64 (t 2).m, .bool (t 2).f, .int .i64 (t 2).n, .int .i64 (t 3).m, .bool (t 3).f, .int .i64 (t 3).n] 25 26 26 25 30 25
  go_enter Try.func15, Try.ntmps15
  go_wp2_with fail
  go_loopg [18] (5) (fun g s1 wr => ∃ j : Nat, s1 = .int .i64 j ∧ 4 - j < g ∧ j ≤ 4 ∧ Hid (Bxs w [(w.heap.size, [.int .i64 (t 0).m, .bool (t 0).f, .int .i64 (t 0).n, .int .i64 (t 1).m, .bool (t 1).f, .int .i64 (t 1).n, .int .i64 (t 2).m, .bool (t 2).f, .int .i64 (t 2).n, .int .i64 (t 3).m, .bool (t 3).f, .int .i64 (t 3).n]), (w.heap.size + 1, [.bool (o 0), .bool (o 1), .bool (o 2), .bool (o 3)]), (w.heap.size + 1 + 1, [.bool (f 0), .bool (f 1), .bool (f 2), .bool (f 3)]), (w.heap.size + 1 + 1 + 1, [.int .i64 0, .bool false, .int .i64 0, .int .i64 0, .bool false, .int .i64 0, .int .i64 0, .bool false, .int .i64 0, .int .i64 0, .bool false, .int .i64 0]), (w.heap.size + 1 + 1 + 1 + 1, [.int .i64 0, .int .i64 0, .bool false]), (w.heap.size + 1 + 1 + 1 + 1 + 1, [.int .i64 ((upS j t s) 0).m, .bool ((upS j t s) 0).f, .int .i64 ((upS j t s) 0).n, .int .i64 ((upS j t s) 1).m, .bool ((upS j t s) 1).f, .int .i64 ((upS j t s) 1).n, .int .i64 ((upS j t s) 2).m, .bool ((upS j t s) 2).f, .int .i64 ((upS j t s) 2).n, .int .i64 ((upS j t s) 3).m, .bool ((upS j t s) 3).f, .int .i64 ((upS j t s) 3).n])] wr))
  case atStart => exact ⟨0, rfl, by omega, by omega, B0⟩
  case round =>
    obtain ⟨j, rfl, hg, hj, HB'⟩ := hrel
    clear B0
    obtain ⟨X, hX⟩ : ∃ X, X = upS j t s := ⟨_, rfl⟩
    have HB : Hid (Bxs w [(w.heap.size, [.int .i64 (t 0).m, .bool (t 0).f, .int .i64 (t 0).n, .int .i64 (t 1).m, .bool (t 1).f, .int .i64 (t 1).n, .int .i64 (t 2).m, .bool (t 2).f, .int .i64 (t 2).n, .int .i64 (t 3).m, .bool (t 3).f, .int .i64 (t 3).n]), (w.heap.size + 1, [.bool (o 0), .bool (o 1), .bool (o 2), .bool (o 3)]), (w.heap.size + 1 + 1, [.bool (f 0), .bool (f 1), .bool (f 2), .bool (f 3)]), (w.heap.size + 1 + 1 + 1, [.int .i64 0, .bool false, .int .i64 0, .int .i64 0, .bool false, .int .i64 0, .int .i64 0, .bool false, .int .i64 0, .int .i64 0, .bool false, .int .i64 0]), (w.heap.size + 1 + 1 + 1 + 1, [.int .i64 0, .int .i64 0, .bool false]), (w.heap.size + 1 + 1 + 1 + 1 + 1, [.int .i64 (X 0).m, .bool (X 0).f, .int .i64 (X 0).n, .int .i64 (X 1).m, .bool (X 1).f, .int .i64 (X 1).n, .int .i64 (X 2).m, .bool (X 2).f, .int .i64 (X 2).n, .int .i64 (X 3).m, .bool (X 3).f, .int .i64 (X 3).n])] wr) := by rw [hX]; exact HB'.out
    have HT : Hid (t j = X j) := by rw [hX]; exact (upS_at j t s).symm
    have HN : Hid (putS X j (s j) = upS (j + 1) t s) := by rw [hX]; exact putS_up t s j
    have HZ : Hid (X = upS j t s) := hX
    clear hX HB'
    by_cases hlt : j < 4
    · obtain rfl | rfl | rfl | rfl := cases4 hlt
      · rcases HA.out 0 (by omega) with ⟨hf, hc⟩ | ⟨hf, hc⟩
        · rw [HT.out] at hc
          have CK : Hid (_) := hc
          clear hc
          have cl := (HB.out.box 5 _ _ rfl).lt
          have c0 := (HB.out.box 5 _ _ rfl).cell 0 _ rfl
          have c1 := (HB.out.box 5 _ _ rfl).cell 1 _ rfl
          have c2 := (HB.out.box 5 _ _ rfl).cell 2 _ rfl
          have c3 := (HB.out.box 5 _ _ rfl).cell 3 _ rfl
          have c4 := (HB.out.box 5 _ _ rfl).cell 4 _ rfl
          have c5 := (HB.out.box 5 _ _ rfl).cell 5 _ rfl
          have c6 := (HB.out.box 5 _ _ rfl).cell 6 _ rfl
          have c7 := (HB.out.box 5 _ _ rfl).cell 7 _ rfl
          have c8 := (HB.out.box 5 _ _ rfl).cell 8 _ rfl
          have c9 := (HB.out.box 5 _ _ rfl).cell 9 _ rfl
          have c10 := (HB.out.box 5 _ _ rfl).cell 10 _ rfl
          have c11 := (HB.out.box 5 _ _ rfl).cell 11 _ rfl
          have el := (HB.out.box 2 _ _ rfl).lt
          have e0 := (HB.out.box 2 _ _ rfl).cell 0 _ rfl
          have e1 := (HB.out.box 2 _ _ rfl).cell 1 _ rfl
          have e2 := (HB.out.box 2 _ _ rfl).cell 2 _ rfl
          have e3 := (HB.out.box 2 _ _ rfl).cell 3 _ rfl
          rw [hf] at e0
          clear hf
          go_wp2_with fail
          refine (CK.out _).mono ?_
          rintro r w5 ⟨rfl, hb⟩
          have HB2 : Hid (_) := HB.out.step hb
          clear hb HB CK
          clear cl c0 c1 c2 c3 c4 c5 c6 c7 c8 c9 c10 c11
          clear el e0 e1 e2 e3
          obtain ⟨w6, hw6, HB3'⟩ := HB2.out.lane 5 _ X rfl 0 (by omega) 0 1 2 rfl rfl rfl (a 0)
          obtain ⟨B, hB⟩ : ∃ B, B = putS X 0 (a 0) := ⟨_, rfl⟩
          rw [← hB] at HB3'
          have HB3 : Hid (Bxs w [(w.heap.size, [.int .i64 (t 0).m, .bool (t 0).f, .int .i64 (t 0).n, .int .i64 (t 1).m, .bool (t 1).f, .int .i64 (t 1).n, .int .i64 (t 2).m, .bool (t 2).f, .int .i64 (t 2).n, .int .i64 (t 3).m, .bool (t 3).f, .int .i64 (t 3).n]), (w.heap.size + 1, [.bool (o 0), .bool (o 1), .bool (o 2), .bool (o 3)]), (w.heap.size + 1 + 1, [.bool (f 0), .bool (f 1), .bool (f 2), .bool (f 3)]), (w.heap.size + 1 + 1 + 1, [.int .i64 0, .bool false, .int .i64 0, .int .i64 0, .bool false, .int .i64 0, .int .i64 0, .bool false, .int .i64 0, .int .i64 0, .bool false, .int .i64 0]), (w.heap.size + 1 + 1 + 1 + 1, [.int .i64 0, .int .i64 0, .bool false]), (w.heap.size + 1 + 1 + 1 + 1 + 1, [.int .i64 (B 0).m, .bool (B 0).f, .int .i64 (B 0).n, .int .i64 (B 1).m, .bool (B 1).f, .int .i64 (B 1).n, .int .i64 (B 2).m, .bool (B 2).f, .int .i64 (B 2).n, .int .i64 (B 3).m, .bool (B 3).f, .int .i64 (B 3).n])] w6) := HB3'
          have HM2 : Hid (a 0 = B 0) := by rw [hB]; exact (putS_at _ _ _).symm
          have HQ : Hid (putS B 0 (s 0) = upS (0 + 1) t s) := by rw [hB, putS_putS]; exact HN.out
          clear HB3' hB HN
          have cl := (HB2.out.box 5 _ _ rfl).lt
          have c0 := (HB2.out.box 5 _ _ rfl).cell 0 _ rfl
          have c1 := (HB2.out.box 5 _ _ rfl).cell 1 _ rfl
          have c2 := (HB2.out.box 5 _ _ rfl).cell 2 _ rfl
          have c3 := (HB2.out.box 5 _ _ rfl).cell 3 _ rfl
          have c4 := (HB2.out.box 5 _ _ rfl).cell 4 _ rfl
          have c5 := (HB2.out.box 5 _ _ rfl).cell 5 _ rfl
          have c6 := (HB2.out.box 5 _ _ rfl).cell 6 _ rfl
          have c7 := (HB2.out.box 5 _ _ rfl).cell 7 _ rfl
          have c8 := (HB2.out.box 5 _ _ rfl).cell 8 _ rfl
          have c9 := (HB2.out.box 5 _ _ rfl).cell 9 _ rfl
          have c10 := (HB2.out.box 5 _ _ rfl).cell 10 _ rfl
          have c11 := (HB2.out.box 5 _ _ rfl).cell 11 _ rfl
          have cf0 := (HB2.out.box 5 _ _ rfl).froz 0 _ rfl
          have cf1 := (HB2.out.box 5 _ _ rfl).froz 1 _ rfl
          have cf2 := (HB2.out.box 5 _ _ rfl).froz 2 _ rfl
          have cf3 := (HB2.out.box 5 _ _ rfl).froz 3 _ rfl
          have cf4 := (HB2.out.box 5 _ _ rfl).froz 4 _ rfl
          have cf5 := (HB2.out.box 5 _ _ rfl).froz 5 _ rfl
          have cf6 := (HB2.out.box 5 _ _ rfl).froz 6 _ rfl
          have cf7 := (HB2.out.box 5 _ _ rfl).froz 7 _ rfl
          have cf8 := (HB2.out.box 5 _ _ rfl).froz 8 _ rfl
          have cf9 := (HB2.out.box 5 _ _ rfl).froz 9 _ rfl
          have cf10 := (HB2.out.box 5 _ _ rfl).froz 10 _ rfl
          have cf11 := (HB2.out.box 5 _ _ rfl).froz 11 _ rfl
          go_upto_region 7 with (fail)
          try rw [hw6]
          clear hw6 HB2
          clear cl c0 c1 c2 c3 c4 c5 c6 c7 c8 c9 c10 c11
          clear cf0 cf1 cf2 cf3 cf4 cf5 cf6 cf7 cf8 cf9 cf10 cf11
          have dl := (HB3.out.box 1 _ _ rfl).lt
          have d0 := (HB3.out.box 1 _ _ rfl).cell 0 _ rfl
          have d1 := (HB3.out.box 1 _ _ rfl).cell 1 _ rfl
          have d2 := (HB3.out.box 1 _ _ rfl).cell 2 _ rfl
          have d3 := (HB3.out.box 1 _ _ rfl).cell 3 _ rfl
          rcases HS.out 0 (by omega) with ⟨ho, hc⟩ | ⟨ho, hc⟩
          · rw [HM2.out] at hc
            have CL : Hid (_) := hc
            clear hc
            rw [ho] at d0
            clear ho
            have cl := (HB3.out.box 5 _ _ rfl).lt
            have c0 := (HB3.out.box 5 _ _ rfl).cell 0 _ rfl
            have c1 := (HB3.out.box 5 _ _ rfl).cell 1 _ rfl
            have c2 := (HB3.out.box 5 _ _ rfl).cell 2 _ rfl
            have c3 := (HB3.out.box 5 _ _ rfl).cell 3 _ rfl
            have c4 := (HB3.out.box 5 _ _ rfl).cell 4 _ rfl
            have c5 := (HB3.out.box 5 _ _ rfl).cell 5 _ rfl
            have c6 := (HB3.out.box 5 _ _ rfl).cell 6 _ rfl
            have c7 := (HB3.out.box 5 _ _ rfl).cell 7 _ rfl
            have c8 := (HB3.out.box 5 _ _ rfl).cell 8 _ rfl
            have c9 := (HB3.out.box 5 _ _ rfl).cell 9 _ rfl
            have c10 := (HB3.out.box 5 _ _ rfl).cell 10 _ rfl
            have c11 := (HB3.out.box 5 _ _ rfl).cell 11 _ rfl
            go_wp2_with fail
            refine (CL.out _).mono ?_
            rintro r w7 ⟨rfl, hb⟩
            have HB4 : Hid (_) := HB3.out.step hb
            clear hb HB3 CL
            clear cl c0 c1 c2 c3 c4 c5 c6 c7 c8 c9 c10 c11
            clear dl d0 d1 d2 d3
            have cl := (HB4.out.box 5 _ _ rfl).lt
            have c0 := (HB4.out.box 5 _ _ rfl).cell 0 _ rfl
            have c1 := (HB4.out.box 5 _ _ rfl).cell 1 _ rfl
            have c2 := (HB4.out.box 5 _ _ rfl).cell 2 _ rfl
            have c3 := (HB4.out.box 5 _ _ rfl).cell 3 _ rfl
            have c4 := (HB4.out.box 5 _ _ rfl).cell 4 _ rfl
            have c5 := (HB4.out.box 5 _ _ rfl).cell 5 _ rfl
            have c6 := (HB4.out.box 5 _ _ rfl).cell 6 _ rfl
            have c7 := (HB4.out.box 5 _ _ rfl).cell 7 _ rfl
            have c8 := (HB4.out.box 5 _ _ rfl).cell 8 _ rfl
            have c9 := (HB4.out.box 5 _ _ rfl).cell 9 _ rfl
            have c10 := (HB4.out.box 5 _ _ rfl).cell 10 _ rfl
            have c11 := (HB4.out.box 5 _ _ rfl).cell 11 _ rfl
            have cf0 := (HB4.out.box 5 _ _ rfl).froz 0 _ rfl
            have cf1 := (HB4.out.box 5 _ _ rfl).froz 1 _ rfl
            have cf2 := (HB4.out.box 5 _ _ rfl).froz 2 _ rfl
            have cf3 := (HB4.out.box 5 _ _ rfl).froz 3 _ rfl
            have cf4 := (HB4.out.box 5 _ _ rfl).froz 4 _ rfl
            have cf5 := (HB4.out.box 5 _ _ rfl).froz 5 _ rfl
            have cf6 := (HB4.out.box 5 _ _ rfl).froz 6 _ rfl
            have cf7 := (HB4.out.box 5 _ _ rfl).froz 7 _ rfl
            have cf8 := (HB4.out.box 5 _ _ rfl).froz 8 _ rfl
            have cf9 := (HB4.out.box 5 _ _ rfl).froz 9 _ rfl
            have cf10 := (HB4.out.box 5 _ _ rfl).froz 10 _ rfl
            have cf11 := (HB4.out.box 5 _ _ rfl).froz 11 _ rfl
            go_wp2_with fail
            obtain ⟨w8, hw8, HB5⟩ := HB4.out.lane 5 _ B rfl 0 (by omega) 0 1 2 rfl rfl rfl (s 0)
            rw [hw8]
            rw [HQ.out] at HB5
            clear hw8
            go_roundg (4 - (0 + 1) + 1)
            case measure => omega
            case rel => exact ⟨1, rfl, by omega, by omega, HB5⟩
          · have HU : Hid (upS (0 + 1) t s = B) := by rw [← HQ.out]; exact putS_self (hc.trans HM2.out)
            clear hc
            rw [ho] at d0
            clear ho
            go_wp2_with fail
            have HB5 := HB3.out
            rw [← HU.out] at HB5
            go_roundg (4 - (0 + 1) + 1)
            case measure => omega
            case rel => exact ⟨1, rfl, by omega, by omega, HB5⟩
        · have HM2 : Hid (a 0 = X 0) := hc.trans HT.out
          clear hc
          have dl := (HB.out.box 1 _ _ rfl).lt
          have d0 := (HB.out.box 1 _ _ rfl).cell 0 _ rfl
          have d1 := (HB.out.box 1 _ _ rfl).cell 1 _ rfl
          have d2 := (HB.out.box 1 _ _ rfl).cell 2 _ rfl
          have d3 := (HB.out.box 1 _ _ rfl).cell 3 _ rfl
          have el := (HB.out.box 2 _ _ rfl).lt
          have e0 := (HB.out.box 2 _ _ rfl).cell 0 _ rfl
          have e1 := (HB.out.box 2 _ _ rfl).cell 1 _ rfl
          have e2 := (HB.out.box 2 _ _ rfl).cell 2 _ rfl
          have e3 := (HB.out.box 2 _ _ rfl).cell 3 _ rfl
          rw [hf] at e0
          clear hf
          rcases HS.out 0 (by omega) with ⟨ho, hc⟩ | ⟨ho, hc⟩
          · rw [HM2.out] at hc
            have CL : Hid (_) := hc
            clear hc
            rw [ho] at d0
            clear ho
            have cl := (HB.out.box 5 _ _ rfl).lt
            have c0 := (HB.out.box 5 _ _ rfl).cell 0 _ rfl
            have c1 := (HB.out.box 5 _ _ rfl).cell 1 _ rfl
            have c2 := (HB.out.box 5 _ _ rfl).cell 2 _ rfl
            have c3 := (HB.out.box 5 _ _ rfl).cell 3 _ rfl
            have c4 := (HB.out.box 5 _ _ rfl).cell 4 _ rfl
            have c5 := (HB.out.box 5 _ _ rfl).cell 5 _ rfl
            have c6 := (HB.out.box 5 _ _ rfl).cell 6 _ rfl
            have c7 := (HB.out.box 5 _ _ rfl).cell 7 _ rfl
            have c8 := (HB.out.box 5 _ _ rfl).cell 8 _ rfl
            have c9 := (HB.out.box 5 _ _ rfl).cell 9 _ rfl
            have c10 := (HB.out.box 5 _ _ rfl).cell 10 _ rfl
            have c11 := (HB.out.box 5 _ _ rfl).cell 11 _ rfl
            go_wp2_with fail
            refine (CL.out _).mono ?_
            rintro r w7 ⟨rfl, hb⟩
            have HB4 : Hid (_) := HB.out.step hb
            clear hb HB CL
            clear cl c0 c1 c2 c3 c4 c5 c6 c7 c8 c9 c10 c11
            clear dl d0 d1 d2 d3
            clear el e0 e1 e2 e3
            have cl := (HB4.out.box 5 _ _ rfl).lt
            have c0 := (HB4.out.box 5 _ _ rfl).cell 0 _ rfl
            have c1 := (HB4.out.box 5 _ _ rfl).cell 1 _ rfl
            have c2 := (HB4.out.box 5 _ _ rfl).cell 2 _ rfl
            have c3 := (HB4.out.box 5 _ _ rfl).cell 3 _ rfl
            have c4 := (HB4.out.box 5 _ _ rfl).cell 4 _ rfl
            have c5 := (HB4.out.box 5 _ _ rfl).cell 5 _ rfl
            have c6 := (HB4.out.box 5 _ _ rfl).cell 6 _ rfl
            have c7 := (HB4.out.box 5 _ _ rfl).cell 7 _ rfl
            have c8 := (HB4.out.box 5 _ _ rfl).cell 8 _ rfl
            have c9 := (HB4.out.box 5 _ _ rfl).cell 9 _ rfl
            have c10 := (HB4.out.box 5 _ _ rfl).cell 10 _ rfl
            have c11 := (HB4.out.box 5 _ _ rfl).cell 11 _ rfl
            have cf0 := (HB4.out.box 5 _ _ rfl).froz 0 _ rfl
            have cf1 := (HB4.out.box 5 _ _ rfl).froz 1 _ rfl
            have cf2 := (HB4.out.box 5 _ _ rfl).froz 2 _ rfl
            have cf3 := (HB4.out.box 5 _ _ rfl).froz 3 _ rfl
            have cf4 := (HB4.out.box 5 _ _ rfl).froz 4 _ rfl
            have cf5 := (HB4.out.box 5 _ _ rfl).froz 5 _ rfl
            have cf6 := (HB4.out.box 5 _ _ rfl).froz 6 _ rfl
            have cf7 := (HB4.out.box 5 _ _ rfl).froz 7 _ rfl
            have cf8 := (HB4.out.box 5 _ _ rfl).froz 8 _ rfl
            have cf9 := (HB4.out.box 5 _ _ rfl).froz 9 _ rfl
            have cf10 := (HB4.out.box 5 _ _ rfl).froz 10 _ rfl
            have cf11 := (HB4.out.box 5 _ _ rfl).froz 11 _ rfl
            go_wp2_with fail
            obtain ⟨w8, hw8, HB5⟩ := HB4.out.lane 5 _ X rfl 0 (by omega) 0 1 2 rfl rfl rfl (s 0)
            rw [hw8]
            rw [HN.out] at HB5
            clear hw8
            go_roundg (4 - (0 + 1) + 1)
            case measure => omega
            case rel => exact ⟨1, rfl, by omega, by omega, HB5⟩
          · have HU : Hid (upS (0 + 1) t s = X) := by rw [← HN.out]; exact putS_self (hc.trans HM2.out)
            clear hc
            rw [ho] at d0
            clear ho
            go_wp2_with fail
            have HB5 := HB.out
            rw [← HU.out] at HB5
            go_roundg (4 - (0 + 1) + 1)
            case measure => omega
            case rel => exact ⟨1, rfl, by omega, by omega, HB5⟩
      · rcases HA.out 1 (by omega) with ⟨hf, hc⟩ | ⟨hf, hc⟩
        · rw [HT.out] at hc
          have CK : Hid (_) := hc
          clear hc
          have cl := (HB.out.box 5 _ _ rfl).lt
          have c0 := (HB.out.box 5 _ _ rfl).cell 0 _ rfl
          have c1 := (HB.out.box 5 _ _ rfl).cell 1 _ rfl
          have c2 := (HB.out.box 5 _ _ rfl).cell 2 _ rfl
          have c3 := (HB.out.box 5 _ _ rfl).cell 3 _ rfl
          have c4 := (HB.out.box 5 _ _ rfl).cell 4 _ rfl
          have c5 := (HB.out.box 5 _ _ rfl).cell 5 _ rfl
          have c6 := (HB.out.box 5 _ _ rfl).cell 6 _ rfl
          have c7 := (HB.out.box 5 _ _ rfl).cell 7 _ rfl
          have c8 := (HB.out.box 5 _ _ rfl).cell 8 _ rfl
          have c9 := (HB.out.box 5 _ _ rfl).cell 9 _ rfl
          have c10 := (HB.out.box 5 _ _ rfl).cell 10 _ rfl
          have c11 := (HB.out.box 5 _ _ rfl).cell 11 _ rfl
          have el := (HB.out.box 2 _ _ rfl).lt
          have e0 := (HB.out.box 2 _ _ rfl).cell 0 _ rfl
          have e1 := (HB.out.box 2 _ _ rfl).cell 1 _ rfl
          have e2 := (HB.out.box 2 _ _ rfl).cell 2 _ rfl
          have e3 := (HB.out.box 2 _ _ rfl).cell 3 _ rfl
          rw [hf] at e1
          clear hf
          go_wp2_with fail
          refine (CK.out _).mono ?_
          rintro r w5 ⟨rfl, hb⟩
          have HB2 : Hid (_) := HB.out.step hb
          clear hb HB CK
          clear cl c0 c1 c2 c3 c4 c5 c6 c7 c8 c9 c10 c11
          clear el e0 e1 e2 e3
          obtain ⟨w6, hw6, HB3'⟩ := HB2.out.lane 5 _ X rfl 1 (by omega) 3 4 5 rfl rfl rfl (a 1)
          obtain ⟨B, hB⟩ : ∃ B, B = putS X 1 (a 1) := ⟨_, rfl⟩
          rw [← hB] at HB3'
          have HB3 : Hid (Bxs w [(w.heap.size, [.int .i64 (t 0).m, .bool (t 0).f, .int .i64 (t 0).n, .int .i64 (t 1).m, .bool (t 1).f, .int .i64 (t 1).n, .int .i64 (t 2).m, .bool (t 2).f, .int .i64 (t 2).n, .int .i64 (t 3).m, .bool (t 3).f, .int .i64 (t 3).n]), (w.heap.size + 1, [.bool (o 0), .bool (o 1), .bool (o 2), .bool (o 3)]), (w.heap.size + 1 + 1, [.bool (f 0), .bool (f 1), .bool (f 2), .bool (f 3)]), (w.heap.size + 1 + 1 + 1, [.int .i64 0, .bool false, .int .i64 0, .int .i64 0, .bool false, .int .i64 0, .int .i64 0, .bool false, .int .i64 0, .int .i64 0, .bool false, .int .i64 0]), (w.heap.size + 1 + 1 + 1 + 1, [.int .i64 0, .int .i64 0, .bool false]), (w.heap.size + 1 + 1 + 1 + 1 + 1, [.int .i64 (B 0).m, .bool (B 0).f, .int .i64 (B 0).n, .int .i64 (B 1).m, .bool (B 1).f, .int .i64 (B 1).n, .int .i64 (B 2).m, .bool (B 2).f, .int .i64 (B 2).n, .int .i64 (B 3).m, .bool (B 3).f, .int .i64 (B 3).n])] w6) := HB3'
          have HM2 : Hid (a 1 = B 1) := by rw [hB]; exact (putS_at _ _ _).symm
          have HQ : Hid (putS B 1 (s 1) = upS (1 + 1) t s) := by rw [hB, putS_putS]; exact HN.out
          clear HB3' hB HN
          have cl := (HB2.out.box 5 _ _ rfl).lt
          have c0 := (HB2.out.box 5 _ _ rfl).cell 0 _ rfl
          have c1 := (HB2.out.box 5 _ _ rfl).cell 1 _ rfl
          have c2 := (HB2.out.box 5 _ _ rfl).cell 2 _ rfl
          have c3 := (HB2.out.box 5 _ _ rfl).cell 3 _ rfl
          have c4 := (HB2.out.box 5 _ _ rfl).cell 4 _ rfl
          have c5 := (HB2.out.box 5 _ _ rfl).cell 5 _ rfl
          have c6 := (HB2.out.box 5 _ _ rfl).cell 6 _ rfl
          have c7 := (HB2.out.box 5 _ _ rfl).cell 7 _ rfl
          have c8 := (HB2.out.box 5 _ _ rfl).cell 8 _ rfl
          have c9 := (HB2.out.box 5 _ _ rfl).cell 9 _ rfl
          have c10 := (HB2.out.box 5 _ _ rfl).cell 10 _ rfl
          have c11 := (HB2.out.box 5 _ _ rfl).cell 11 _ rfl
          have cf0 := (HB2.out.box 5 _ _ rfl).froz 0 _ rfl
          have cf1 := (HB2.out.box 5 _ _ rfl).froz 1 _ rfl
          have cf2 := (HB2.out.box 5 _ _ rfl).froz 2 _ rfl
          have cf3 := (HB2.out.box 5 _ _ rfl).froz 3 _ rfl
          have cf4 := (HB2.out.box 5 _ _ rfl).froz 4 _ rfl
          have cf5 := (HB2.out.box 5 _ _ rfl).froz 5 _ rfl
          have cf6 := (HB2.out.box 5 _ _ rfl).froz 6 _ rfl
          have cf7 := (HB2.out.box 5 _ _ rfl).froz 7 _ rfl
          have cf8 := (HB2.out.box 5 _ _ rfl).froz 8 _ rfl
          have cf9 := (HB2.out.box 5 _ _ rfl).froz 9 _ rfl
          have cf10 := (HB2.out.box 5 _ _ rfl).froz 10 _ rfl
          have cf11 := (HB2.out.box 5 _ _ rfl).froz 11 _ rfl
          go_upto_region 7 with (fail)
          try rw [hw6]
          clear hw6 HB2
          clear cl c0 c1 c2 c3 c4 c5 c6 c7 c8 c9 c10 c11
          clear cf0 cf1 cf2 cf3 cf4 cf5 cf6 cf7 cf8 cf9 cf10 cf11
          have dl := (HB3.out.box 1 _ _ rfl).lt
          have d0 := (HB3.out.box 1 _ _ rfl).cell 0 _ rfl
          have d1 := (HB3.out.box 1 _ _ rfl).cell 1 _ rfl
          have d2 := (HB3.out.box 1 _ _ rfl).cell 2 _ rfl
          have d3 := (HB3.out.box 1 _ _ rfl).cell 3 _ rfl
          rcases HS.out 1 (by omega) with ⟨ho, hc⟩ | ⟨ho, hc⟩
          · rw [HM2.out] at hc
            have CL : Hid (_) := hc
            clear hc
            rw [ho] at d1
            clear ho
            have cl := (HB3.out.box 5 _ _ rfl).lt
            have c0 := (HB3.out.box 5 _ _ rfl).cell 0 _ rfl
            have c1 := (HB3.out.box 5 _ _ rfl).cell 1 _ rfl
            have c2 := (HB3.out.box 5 _ _ rfl).cell 2 _ rfl
            have c3 := (HB3.out.box 5 _ _ rfl).cell 3 _ rfl
            have c4 := (HB3.out.box 5 _ _ rfl).cell 4 _ rfl
            have c5 := (HB3.out.box 5 _ _ rfl).cell 5 _ rfl
            have c6 := (HB3.out.box 5 _ _ rfl).cell 6 _ rfl
            have c7 := (HB3.out.box 5 _ _ rfl).cell 7 _ rfl
            have c8 := (HB3.out.box 5 _ _ rfl).cell 8 _ rfl
            have c9 := (HB3.out.box 5 _ _ rfl).cell 9 _ rfl
            have c10 := (HB3.out.box 5 _ _ rfl).cell 10 _ rfl
            have c11 := (HB3.out.box 5 _ _ rfl).cell 11 _ rfl
            go_wp2_with fail
            refine (CL.out _).mono ?_
            rintro r w7 ⟨rfl, hb⟩
            have HB4 : Hid (_) := HB3.out.step hb
            clear hb HB3 CL
            clear cl c0 c1 c2 c3 c4 c5 c6 c7 c8 c9 c10 c11
            clear dl d0 d1 d2 d3
            have cl := (HB4.out.box 5 _ _ rfl).lt
            have c0 := (HB4.out.box 5 _ _ rfl).cell 0 _ rfl
            have c1 := (HB4.out.box 5 _ _ rfl).cell 1 _ rfl
            have c2 := (HB4.out.box 5 _ _ rfl).cell 2 _ rfl
            have c3 := (HB4.out.box 5 _ _ rfl).cell 3 _ rfl
            have c4 := (HB4.out.box 5 _ _ rfl).cell 4 _ rfl
            have c5 := (HB4.out.box 5 _ _ rfl).cell 5 _ rfl
            have c6 := (HB4.out.box 5 _ _ rfl).cell 6 _ rfl
            have c7 := (HB4.out.box 5 _ _ rfl).cell 7 _ rfl
            have c8 := (HB4.out.box 5 _ _ rfl).cell 8 _ rfl
            have c9 := (HB4.out.box 5 _ _ rfl).cell 9 _ rfl
            have c10 := (HB4.out.box 5 _ _ rfl).cell 10 _ rfl
            have c11 := (HB4.out.box 5 _ _ rfl).cell 11 _ rfl
            have cf0 := (HB4.out.box 5 _ _ rfl).froz 0 _ rfl
            have cf1 := (HB4.out.box 5 _ _ rfl).froz 1 _ rfl
            have cf2 := (HB4.out.box 5 _ _ rfl).froz 2 _ rfl
            have cf3 := (HB4.out.box 5 _ _ rfl).froz 3 _ rfl
            have cf4 := (HB4.out.box 5 _ _ rfl).froz 4 _ rfl
            have cf5 := (HB4.out.box 5 _ _ rfl).froz 5 _ rfl
            have cf6 := (HB4.out.box 5 _ _ rfl).froz 6 _ rfl
            have cf7 := (HB4.out.box 5 _ _ rfl).froz 7 _ rfl
            have cf8 := (HB4.out.box 5 _ _ rfl).froz 8 _ rfl
            have cf9 := (HB4.out.box 5 _ _ rfl).froz 9 _ rfl
            have cf10 := (HB4.out.box 5 _ _ rfl).froz 10 _ rfl
            have cf11 := (HB4.out.box 5 _ _ rfl).froz 11 _ rfl
            go_wp2_with fail
            obtain ⟨w8, hw8, HB5⟩ := HB4.out.lane 5 _ B rfl 1 (by omega) 3 4 5 rfl rfl rfl (s 1)
            rw [hw8]
            rw [HQ.out] at HB5
            clear hw8
            go_roundg (4 - (1 + 1) + 1)
            case measure => omega
            case rel => exact ⟨2, rfl, by omega, by omega, HB5⟩
          · have HU : Hid (upS (1 + 1) t s = B) := by rw [← HQ.out]; exact putS_self (hc.trans HM2.out)
            clear hc
            rw [ho] at d1
            clear ho
            go_wp2_with fail
            have HB5 := HB3.out
            rw [← HU.out] at HB5
            go_roundg (4 - (1 + 1) + 1)
            case measure => omega
            case rel => exact ⟨2, rfl, by omega, by omega, HB5⟩
        · have HM2 : Hid (a 1 = X 1) := hc.trans HT.out
          clear hc
          have dl := (HB.out.box 1 _ _ rfl).lt
          have d0 := (HB.out.box 1 _ _ rfl).cell 0 _ rfl
          have d1 := (HB.out.box 1 _ _ rfl).cell 1 _ rfl
          have d2 := (HB.out.box 1 _ _ rfl).cell 2 _ rfl
          have d3 := (HB.out.box 1 _ _ rfl).cell 3 _ rfl
          have el := (HB.out.box 2 _ _ rfl).lt
          have e0 := (HB.out.box 2 _ _ rfl).cell 0 _ rfl
          have e1 := (HB.out.box 2 _ _ rfl).cell 1 _ rfl
          have e2 := (HB.out.box 2 _ _ rfl).cell 2 _ rfl
          have e3 := (HB.out.box 2 _ _ rfl).cell 3 _ rfl
          rw [hf] at e1
          clear hf
          rcases HS.out 1 (by omega) with ⟨ho, hc⟩ | ⟨ho, hc⟩
          · rw [HM2.out] at hc
            have CL : Hid (_) := hc
            clear hc
            rw [ho] at d1
            clear ho
            have cl := (HB.out.box 5 _ _ rfl).lt
            have c0 := (HB.out.box 5 _ _ rfl).cell 0 _ rfl
            have c1 := (HB.out.box 5 _ _ rfl).cell 1 _ rfl
            have c2 := (HB.out.box 5 _ _ rfl).cell 2 _ rfl
            have c3 := (HB.out.box 5 _ _ rfl).cell 3 _ rfl
            have c4 := (HB.out.box 5 _ _ rfl).cell 4 _ rfl
            have c5 := (HB.out.box 5 _ _ rfl).cell 5 _ rfl
            have c6 := (HB.out.box 5 _ _ rfl).cell 6 _ rfl
            have c7 := (HB.out.box 5 _ _ rfl).cell 7 _ rfl
            have c8 := (HB.out.box 5 _ _ rfl).cell 8 _ rfl
            have c9 := (HB.out.box 5 _ _ rfl).cell 9 _ rfl
            have c10 := (HB.out.box 5 _ _ rfl).cell 10 _ rfl
            have c11 := (HB.out.box 5 _ _ rfl).cell 11 _ rfl
            go_wp2_with fail
            refine (CL.out _).mono ?_
            rintro r w7 ⟨rfl, hb⟩
            have HB4 : Hid (_) := HB.out.step hb
            clear hb HB CL
            clear cl c0 c1 c2 c3 c4 c5 c6 c7 c8 c9 c10 c11
            clear dl d0 d1 d2 d3
            clear el e0 e1 e2 e3
            have cl := (HB4.out.box 5 _ _ rfl).lt
            have c0 := (HB4.out.box 5 _ _ rfl).cell 0 _ rfl
            have c1 := (HB4.out.box 5 _ _ rfl).cell 1 _ rfl
            have c2 := (HB4.out.box 5 _ _ rfl).cell 2 _ rfl
            have c3 := (HB4.out.box 5 _ _ rfl).cell 3 _ rfl
            have c4 := (HB4.out.box 5 _ _ rfl).cell 4 _ rfl
            have c5 := (HB4.out.box 5 _ _ rfl).cell 5 _ rfl
            have c6 := (HB4.out.box 5 _ _ rfl).cell 6 _ rfl
            have c7 := (HB4.out.box 5 _ _ rfl).cell 7 _ rfl
            have c8 := (HB4.out.box 5 _ _ rfl).cell 8 _ rfl
            have c9 := (HB4.out.box 5 _ _ rfl).cell 9 _ rfl
            have c10 := (HB4.out.box 5 _ _ rfl).cell 10 _ rfl
            have c11 := (HB4.out.box 5 _ _ rfl).cell 11 _ rfl
            have cf0 := (HB4.out.box 5 _ _ rfl).froz 0 _ rfl
            have cf1 := (HB4.out.box 5 _ _ rfl).froz 1 _ rfl
            have cf2 := (HB4.out.box 5 _ _ rfl).froz 2 _ rfl
            have cf3 := (HB4.out.box 5 _ _ rfl).froz 3 _ rfl
            have cf4 := (HB4.out.box 5 _ _ rfl).froz 4 _ rfl
            have cf5 := (HB4.out.box 5 _ _ rfl).froz 5 _ rfl
            have cf6 := (HB4.out.box 5 _ _ rfl).froz 6 _ rfl
            have cf7 := (HB4.out.box 5 _ _ rfl).froz 7 _ rfl
            have cf8 := (HB4.out.box 5 _ _ rfl).froz 8 _ rfl
            have cf9 := (HB4.out.box 5 _ _ rfl).froz 9 _ rfl
            have cf10 := (HB4.out.box 5 _ _ rfl).froz 10 _ rfl
            have cf11 := (HB4.out.box 5 _ _ rfl).froz 11 _ rfl
            go_wp2_with fail
            obtain ⟨w8, hw8, HB5⟩ := HB4.out.lane 5 _ X rfl 1 (by omega) 3 4 5 rfl rfl rfl (s 1)
            rw [hw8]
            rw [HN.out] at HB5
            clear hw8
            go_roundg (4 - (1 + 1) + 1)
            case measure => omega
            case rel => exact ⟨2, rfl, by omega, by omega, HB5⟩
          · have HU : Hid (upS (1 + 1) t s = X) := by rw [← HN.out]; exact putS_self (hc.trans HM2.out)
            clear hc
            rw [ho] at d1
            clear ho
            go_wp2_with fail
            have HB5 := HB.out
            rw [← HU.out] at HB5
            go_roundg (4 - (1 + 1) + 1)
            case measure => omega
            case rel => exact ⟨2, rfl, by omega, by omega, HB5⟩
      · rcases HA.out 2 (by omega) with ⟨hf, hc⟩ | ⟨hf, hc⟩
        · rw [HT.out] at hc
          have CK : Hid (_) := hc
          clear hc
          have cl := (HB.out.box 5 _ _ rfl).lt
          have c0 := (HB.out.box 5 _ _ rfl).cell 0 _ rfl
          have c1 := (HB.out.box 5 _ _ rfl).cell 1 _ rfl
          have c2 := (HB.out.box 5 _ _ rfl).cell 2 _ rfl
          have c3 := (HB.out.box 5 _ _ rfl).cell 3 _ rfl
          have c4 := (HB.out.box 5 _ _ rfl).cell 4 _ rfl
          have c5 := (HB.out.box 5 _ _ rfl).cell 5 _ rfl
          have c6 := (HB.out.box 5 _ _ rfl).cell 6 _ rfl
          have c7 := (HB.out.box 5 _ _ rfl).cell 7 _ rfl
          have c8 := (HB.out.box 5 _ _ rfl).cell 8 _ rfl
          have c9 := (HB.out.box 5 _ _ rfl).cell 9 _ rfl
          have c10 := (HB.out.box 5 _ _ rfl).cell 10 _ rfl
          have c11 := (HB.out.box 5 _ _ rfl).cell 11 _ rfl
          have el := (HB.out.box 2 _ _ rfl).lt
          have e0 := (HB.out.box 2 _ _ rfl).cell 0 _ rfl
          have e1 := (HB.out.box 2 _ _ rfl).cell 1 _ rfl
          have e2 := (HB.out.box 2 _ _ rfl).cell 2 _ rfl
          have e3 := (HB.out.box 2 _ _ rfl).cell 3 _ rfl
          rw [hf] at e2
          clear hf
          go_wp2_with fail
          refine (CK.out _).mono ?_
          rintro r w5 ⟨rfl, hb⟩
          have HB2 : Hid (_) := HB.out.step hb
          clear hb HB CK
          clear cl c0 c1 c2 c3 c4 c5 c6 c7 c8 c9 c10 c11
          clear el e0 e1 e2 e3
          obtain ⟨w6, hw6, HB3'⟩ := HB2.out.lane 5 _ X rfl 2 (by omega) 6 7 8 rfl rfl rfl (a 2)
          obtain ⟨B, hB⟩ : ∃ B, B = putS X 2 (a 2) := ⟨_, rfl⟩
          rw [← hB] at HB3'
          have HB3 : Hid (Bxs w [(w.heap.size, [.int .i64 (t 0).m, .bool (t 0).f, .int .i64 (t 0).n, .int .i64 (t 1).m, .bool (t 1).f, .int .i64 (t 1).n, .int .i64 (t 2).m, .bool (t 2).f, .int .i64 (t 2).n, .int .i64 (t 3).m, .bool (t 3).f, .int .i64 (t 3).n]), (w.heap.size + 1, [.bool (o 0), .bool (o 1), .bool (o 2), .bool (o 3)]), (w.heap.size + 1 + 1, [.bool (f 0), .bool (f 1), .bool (f 2), .bool (f 3)]), (w.heap.size + 1 + 1 + 1, [.int .i64 0, .bool false, .int .i64 0, .int .i64 0, .bool false, .int .i64 0, .int .i64 0, .bool false, .int .i64 0, .int .i64 0, .bool false, .int .i64 0]), (w.heap.size + 1 + 1 + 1 + 1, [.int .i64 0, .int .i64 0, .bool false]), (w.heap.size + 1 + 1 + 1 + 1 + 1, [.int .i64 (B 0).m, .bool (B 0).f, .int .i64 (B 0).n, .int .i64 (B 1).m, .bool (B 1).f, .int .i64 (B 1).n, .int .i64 (B 2).m, .bool (B 2).f, .int .i64 (B 2).n, .int .i64 (B 3).m, .bool (B 3).f, .int .i64 (B 3).n])] w6) := HB3'
          have HM2 : Hid (a 2 = B 2) := by rw [hB]; exact (putS_at _ _ _).symm
          have HQ : Hid (putS B 2 (s 2) = upS (2 + 1) t s) := by rw [hB, putS_putS]; exact HN.out
          clear HB3' hB HN
          have cl := (HB2.out.box 5 _ _ rfl).lt
          have c0 := (HB2.out.box 5 _ _ rfl).cell 0 _ rfl
          have c1 := (HB2.out.box 5 _ _ rfl).cell 1 _ rfl
          have c2 := (HB2.out.box 5 _ _ rfl).cell 2 _ rfl
          have c3 := (HB2.out.box 5 _ _ rfl).cell 3 _ rfl
          have c4 := (HB2.out.box 5 _ _ rfl).cell 4 _ rfl
          have c5 := (HB2.out.box 5 _ _ rfl).cell 5 _ rfl
          have c6 := (HB2.out.box 5 _ _ rfl).cell 6 _ rfl
          have c7 := (HB2.out.box 5 _ _ rfl).cell 7 _ rfl
          have c8 := (HB2.out.box 5 _ _ rfl).cell 8 _ rfl
          have c9 := (HB2.out.box 5 _ _ rfl).cell 9 _ rfl
          have c10 := (HB2.out.box 5 _ _ rfl).cell 10 _ rfl
          have c11 := (HB2.out.box 5 _ _ rfl).cell 11 _ rfl
          have cf0 := (HB2.out.box 5 _ _ rfl).froz 0 _ rfl
          have cf1 := (HB2.out.box 5 _ _ rfl).froz 1 _ rfl
          have cf2 := (HB2.out.box 5 _ _ rfl).froz 2 _ rfl
          have cf3 := (HB2.out.box 5 _ _ rfl).froz 3 _ rfl
          have cf4 := (HB2.out.box 5 _ _ rfl).froz 4 _ rfl
          have cf5 := (HB2.out.box 5 _ _ rfl).froz 5 _ rfl
          have cf6 := (HB2.out.box 5 _ _ rfl).froz 6 _ rfl
          have cf7 := (HB2.out.box 5 _ _ rfl).froz 7 _ rfl
          have cf8 := (HB2.out.box 5 _ _ rfl).froz 8 _ rfl
          have cf9 := (HB2.out.box 5 _ _ rfl).froz 9 _ rfl
          have cf10 := (HB2.out.box 5 _ _ rfl).froz 10 _ rfl
          have cf11 := (HB2.out.box 5 _ _ rfl).froz 11 _ rfl
          go_upto_region 7 with (fail)
          try rw [hw6]
          clear hw6 HB2
          clear cl c0 c1 c2 c3 c4 c5 c6 c7 c8 c9 c10 c11
          clear cf0 cf1 cf2 cf3 cf4 cf5 cf6 cf7 cf8 cf9 cf10 cf11
          have dl := (HB3.out.box 1 _ _ rfl).lt
          have d0 := (HB3.out.box 1 _ _ rfl).cell 0 _ rfl
          have d1 := (HB3.out.box 1 _ _ rfl).cell 1 _ rfl
          have d2 := (HB3.out.box 1 _ _ rfl).cell 2 _ rfl
          have d3 := (HB3.out.box 1 _ _ rfl).cell 3 _ rfl
          rcases HS.out 2 (by omega) with ⟨ho, hc⟩ | ⟨ho, hc⟩
          · rw [HM2.out] at hc
            have CL : Hid (_) := hc
            clear hc
            rw [ho] at d2
            clear ho
            have cl := (HB3.out.box 5 _ _ rfl).lt
            have c0 := (HB3.out.box 5 _ _ rfl).cell 0 _ rfl
            have c1 := (HB3.out.box 5 _ _ rfl).cell 1 _ rfl
            have c2 := (HB3.out.box 5 _ _ rfl).cell 2 _ rfl
            have c3 := (HB3.out.box 5 _ _ rfl).cell 3 _ rfl
            have c4 := (HB3.out.box 5 _ _ rfl).cell 4 _ rfl
            have c5 := (HB3.out.box 5 _ _ rfl).cell 5 _ rfl
            have c6 := (HB3.out.box 5 _ _ rfl).cell 6 _ rfl
            have c7 := (HB3.out.box 5 _ _ rfl).cell 7 _ rfl
            have c8 := (HB3.out.box 5 _ _ rfl).cell 8 _ rfl
            have c9 := (HB3.out.box 5 _ _ rfl).cell 9 _ rfl
            have c10 := (HB3.out.box 5 _ _ rfl).cell 10 _ rfl
            have c11 := (HB3.out.box 5 _ _ rfl).cell 11 _ rfl
            go_wp2_with fail
            refine (CL.out _).mono ?_
            rintro r w7 ⟨rfl, hb⟩
            have HB4 : Hid (_) := HB3.out.step hb
            clear hb HB3 CL
            clear cl c0 c1 c2 c3 c4 c5 c6 c7 c8 c9 c10 c11
            clear dl d0 d1 d2 d3
            have cl := (HB4.out.box 5 _ _ rfl).lt
            have c0 := (HB4.out.box 5 _ _ rfl).cell 0 _ rfl
            have c1 := (HB4.out.box 5 _ _ rfl).cell 1 _ rfl
            have c2 := (HB4.out.box 5 _ _ rfl).cell 2 _ rfl
            have c3 := (HB4.out.box 5 _ _ rfl).cell 3 _ rfl
            have c4 := (HB4.out.box 5 _ _ rfl).cell 4 _ rfl
            have c5 := (HB4.out.box 5 _ _ rfl).cell 5 _ rfl
            have c6 := (HB4.out.box 5 _ _ rfl).cell 6 _ rfl
            have c7 := (HB4.out.box 5 _ _ rfl).cell 7 _ rfl
            have c8 := (HB4.out.box 5 _ _ rfl).cell 8 _ rfl
            have c9 := (HB4.out.box 5 _ _ rfl).cell 9 _ rfl
            have c10 := (HB4.out.box 5 _ _ rfl).cell 10 _ rfl
            have c11 := (HB4.out.box 5 _ _ rfl).cell 11 _ rfl
            have cf0 := (HB4.out.box 5 _ _ rfl).froz 0 _ rfl
            have cf1 := (HB4.out.box 5 _ _ rfl).froz 1 _ rfl
            have cf2 := (HB4.out.box 5 _ _ rfl).froz 2 _ rfl
            have cf3 := (HB4.out.box 5 _ _ rfl).froz 3 _ rfl
            have cf4 := (HB4.out.box 5 _ _ rfl).froz 4 _ rfl
            have cf5 := (HB4.out.box 5 _ _ rfl).froz 5 _ rfl
            have cf6 := (HB4.out.box 5 _ _ rfl).froz 6 _ rfl
            have cf7 := (HB4.out.box 5 _ _ rfl).froz 7 _ rfl
            have cf8 := (HB4.out.box 5 _ _ rfl).froz 8 _ rfl
            have cf9 := (HB4.out.box 5 _ _ rfl).froz 9 _ rfl
            have cf10 := (HB4.out.box 5 _ _ rfl).froz 10 _ rfl
            have cf11 := (HB4.out.box 5 _ _ rfl).froz 11 _ rfl
            go_wp2_with fail
            obtain ⟨w8, hw8, HB5⟩ := HB4.out.lane 5 _ B rfl 2 (by omega) 6 7 8 rfl rfl rfl (s 2)
            rw [hw8]
            rw [HQ.out] at HB5
            clear hw8
            go_roundg (4 - (2 + 1) + 1)
            case measure => omega
            case rel => exact ⟨3, rfl, by omega, by omega, HB5⟩
          · have HU : Hid (upS (2 + 1) t s = B) := by rw [← HQ.out]; exact putS_self (hc.trans HM2.out)
            clear hc
            rw [ho] at d2
            clear ho
            go_wp2_with fail
            have HB5 := HB3.out
            rw [← HU.out] at HB5
            go_roundg (4 - (2 + 1) + 1)
            case measure => omega
            case rel => exact ⟨3, rfl, by omega, by omega, HB5⟩
        · have HM2 : Hid (a 2 = X 2) := hc.trans HT.out
          clear hc
          have dl := (HB.out.box 1 _ _ rfl).lt
          have d0 := (HB.out.box 1 _ _ rfl).cell 0 _ rfl
          have d1 := (HB.out.box 1 _ _ rfl).cell 1 _ rfl
          have d2 := (HB.out.box 1 _ _ rfl).cell 2 _ rfl
          have d3 := (HB.out.box 1 _ _ rfl).cell 3 _ rfl
          have el := (HB.out.box 2 _ _ rfl).lt
          have e0 := (HB.out.box 2 _ _ rfl).cell 0 _ rfl
          have e1 := (HB.out.box 2 _ _ rfl).cell 1 _ rfl
          have e2 := (HB.out.box 2 _ _ rfl).cell 2 _ rfl
          have e3 := (HB.out.box 2 _ _ rfl).cell 3 _ rfl
          rw [hf] at e2
          clear hf
          rcases HS.out 2 (by omega) with ⟨ho, hc⟩ | ⟨ho, hc⟩
          · rw [HM2.out] at hc
            have CL : Hid (_) := hc
            clear hc
            rw [ho] at d2
            clear ho
            have cl := (HB.out.box 5 _ _ rfl).lt
            have c0 := (HB.out.box 5 _ _ rfl).cell 0 _ rfl
            have c1 := (HB.out.box 5 _ _ rfl).cell 1 _ rfl
            have c2 := (HB.out.box 5 _ _ rfl).cell 2 _ rfl
            have c3 := (HB.out.box 5 _ _ rfl).cell 3 _ rfl
            have c4 := (HB.out.box 5 _ _ rfl).cell 4 _ rfl
            have c5 := (HB.out.box 5 _ _ rfl).cell 5 _ rfl
            have c6 := (HB.out.box 5 _ _ rfl).cell 6 _ rfl
            have c7 := (HB.out.box 5 _ _ rfl).cell 7 _ rfl
            have c8 := (HB.out.box 5 _ _ rfl).cell 8 _ rfl
            have c9 := (HB.out.box 5 _ _ rfl).cell 9 _ rfl
            have c10 := (HB.out.box 5 _ _ rfl).cell 10 _ rfl
            have c11 := (HB.out.box 5 _ _ rfl).cell 11 _ rfl
            go_wp2_with fail
            refine (CL.out _).mono ?_
            rintro r w7 ⟨rfl, hb⟩
            have HB4 : Hid (_) := HB.out.step hb
            clear hb HB CL
            clear cl c0 c1 c2 c3 c4 c5 c6 c7 c8 c9 c10 c11
            clear dl d0 d1 d2 d3
            clear el e0 e1 e2 e3
            have cl := (HB4.out.box 5 _ _ rfl).lt
            have c0 := (HB4.out.box 5 _ _ rfl).cell 0 _ rfl
            have c1 := (HB4.out.box 5 _ _ rfl).cell 1 _ rfl
            have c2 := (HB4.out.box 5 _ _ rfl).cell 2 _ rfl
            have c3 := (HB4.out.box 5 _ _ rfl).cell 3 _ rfl
            have c4 := (HB4.out.box 5 _ _ rfl).cell 4 _ rfl
            have c5 := (HB4.out.box 5 _ _ rfl).cell 5 _ rfl
            have c6 := (HB4.out.box 5 _ _ rfl).cell 6 _ rfl
            have c7 := (HB4.out.box 5 _ _ rfl).cell 7 _ rfl
            have c8 := (HB4.out.box 5 _ _ rfl).cell 8 _ rfl
            have c9 := (HB4.out.box 5 _ _ rfl).cell 9 _ rfl
            have c10 := (HB4.out.box 5 _ _ rfl).cell 10 _ rfl
            have c11 := (HB4.out.box 5 _ _ rfl).cell 11 _ rfl
            have cf0 := (HB4.out.box 5 _ _ rfl).froz 0 _ rfl
            have cf1 := (HB4.out.box 5 _ _ rfl).froz 1 _ rfl
            have cf2 := (HB4.out.box 5 _ _ rfl).froz 2 _ rfl
            have cf3 := (HB4.out.box 5 _ _ rfl).froz 3 _ rfl
            have cf4 := (HB4.out.box 5 _ _ rfl).froz 4 _ rfl
            have cf5 := (HB4.out.box 5 _ _ rfl).froz 5 _ rfl
            have cf6 := (HB4.out.box 5 _ _ rfl).froz 6 _ rfl
            have cf7 := (HB4.out.box 5 _ _ rfl).froz 7 _ rfl
            have cf8 := (HB4.out.box 5 _ _ rfl).froz 8 _ rfl
            have cf9 := (HB4.out.box 5 _ _ rfl).froz 9 _ rfl
            have cf10 := (HB4.out.box 5 _ _ rfl).froz 10 _ rfl
            have cf11 := (HB4.out.box 5 _ _ rfl).froz 11 _ rfl
            go_wp2_with fail
            obtain ⟨w8, hw8, HB5⟩ := HB4.out.lane 5 _ X rfl 2 (by omega) 6 7 8 rfl rfl rfl (s 2)
            rw [hw8]
            rw [HN.out] at HB5
            clear hw8
            go_roundg (4 - (2 + 1) + 1)
            case measure => omega
            case rel => exact ⟨3, rfl, by omega, by omega, HB5⟩
          · have HU : Hid (upS (2 + 1) t s = X) := by rw [← HN.out]; exact putS_self (hc.trans HM2.out)
            clear hc
            rw [ho] at d2
            clear ho
            go_wp2_with fail
            have HB5 := HB.out
            rw [← HU.out] at HB5
            go_roundg (4 - (2 + 1) + 1)
            case measure => omega
            case rel => exact ⟨3, rfl, by omega, by omega, HB5⟩
      · rcases HA.out 3 (by omega) with ⟨hf, hc⟩ | ⟨hf, hc⟩
        · rw [HT.out] at hc
          have CK : Hid (_) := hc
          clear hc
          have cl := (HB.out.box 5 _ _ rfl).lt
          have c0 := (HB.out.box 5 _ _ rfl).cell 0 _ rfl
          have c1 := (HB.out.box 5 _ _ rfl).cell 1 _ rfl
          have c2 := (HB.out.box 5 _ _ rfl).cell 2 _ rfl
          have c3 := (HB.out.box 5 _ _ rfl).cell 3 _ rfl
          have c4 := (HB.out.box 5 _ _ rfl).cell 4 _ rfl
          have c5 := (HB.out.box 5 _ _ rfl).cell 5 _ rfl
          have c6 := (HB.out.box 5 _ _ rfl).cell 6 _ rfl
          have c7 := (HB.out.box 5 _ _ rfl).cell 7 _ rfl
          have c8 := (HB.out.box 5 _ _ rfl).cell 8 _ rfl
          have c9 := (HB.out.box 5 _ _ rfl).cell 9 _ rfl
          have c10 := (HB.out.box 5 _ _ rfl).cell 10 _ rfl
          have c11 := (HB.out.box 5 _ _ rfl).cell 11 _ rfl
          have el := (HB.out.box 2 _ _ rfl).lt
          have e0 := (HB.out.box 2 _ _ rfl).cell 0 _ rfl
          have e1 := (HB.out.box 2 _ _ rfl).cell 1 _ rfl
          have e2 := (HB.out.box 2 _ _ rfl).cell 2 _ rfl
          have e3 := (HB.out.box 2 _ _ rfl).cell 3 _ rfl
          rw [hf] at e3
          clear hf
          go_wp2_with fail
          refine (CK.out _).mono ?_
          rintro r w5 ⟨rfl, hb⟩
          have HB2 : Hid (_) := HB.out.step hb
          clear hb HB CK
          clear cl c0 c1 c2 c3 c4 c5 c6 c7 c8 c9 c10 c11
          clear el e0 e1 e2 e3
          obtain ⟨w6, hw6, HB3'⟩ := HB2.out.lane 5 _ X rfl 3 (by omega) 9 10 11 rfl rfl rfl (a 3)
          obtain ⟨B, hB⟩ : ∃ B, B = putS X 3 (a 3) := ⟨_, rfl⟩
          rw [← hB] at HB3'
          have HB3 : Hid (Bxs w [(w.heap.size, [.int .i64 (t 0).m, .bool (t 0).f, .int .i64 (t 0).n, .int .i64 (t 1).m, .bool (t 1).f, .int .i64 (t 1).n, .int .i64 (t 2).m, .bool (t 2).f, .int .i64 (t 2).n, .int .i64 (t 3).m, .bool (t 3).f, .int .i64 (t 3).n]), (w.heap.size + 1, [.bool (o 0), .bool (o 1), .bool (o 2), .bool (o 3)]), (w.heap.size + 1 + 1, [.bool (f 0), .bool (f 1), .bool (f 2), .bool (f 3)]), (w.heap.size + 1 + 1 + 1, [.int .i64 0, .bool false, .int .i64 0, .int .i64 0, .bool false, .int .i64 0, .int .i64 0, .bool false, .int .i64 0, .int .i64 0, .bool false, .int .i64 0]), (w.heap.size + 1 + 1 + 1 + 1, [.int .i64 0, .int .i64 0, .bool false]), (w.heap.size + 1 + 1 + 1 + 1 + 1, [.int .i64 (B 0).m, .bool (B 0).f, .int .i64 (B 0).n, .int .i64 (B 1).m, .bool (B 1).f, .int .i64 (B 1).n, .int .i64 (B 2).m, .bool (B 2).f, .int .i64 (B 2).n, .int .i64 (B 3).m, .bool (B 3).f, .int .i64 (B 3).n])] w6) := HB3'
          have HM2 : Hid (a 3 = B 3) := by rw [hB]; exact (putS_at _ _ _).symm
          have HQ : Hid (putS B 3 (s 3) = upS (3 + 1) t s) := by rw [hB, putS_putS]; exact HN.out
          clear HB3' hB HN
          have cl := (HB2.out.box 5 _ _ rfl).lt
          have c0 := (HB2.out.box 5 _ _ rfl).cell 0 _ rfl
          have c1 := (HB2.out.box 5 _ _ rfl).cell 1 _ rfl
          have c2 := (HB2.out.box 5 _ _ rfl).cell 2 _ rfl
          have c3 := (HB2.out.box 5 _ _ rfl).cell 3 _ rfl
          have c4 := (HB2.out.box 5 _ _ rfl).cell 4 _ rfl
          have c5 := (HB2.out.box 5 _ _ rfl).cell 5 _ rfl
          have c6 := (HB2.out.box 5 _ _ rfl).cell 6 _ rfl
          have c7 := (HB2.out.box 5 _ _ rfl).cell 7 _ rfl
          have c8 := (HB2.out.box 5 _ _ rfl).cell 8 _ rfl
          have c9 := (HB2.out.box 5 _ _ rfl).cell 9 _ rfl
          have c10 := (HB2.out.box 5 _ _ rfl).cell 10 _ rfl
          have c11 := (HB2.out.box 5 _ _ rfl).cell 11 _ rfl
          have cf0 := (HB2.out.box 5 _ _ rfl).froz 0 _ rfl
          have cf1 := (HB2.out.box 5 _ _ rfl).froz 1 _ rfl
          have cf2 := (HB2.out.box 5 _ _ rfl).froz 2 _ rfl
          have cf3 := (HB2.out.box 5 _ _ rfl).froz 3 _ rfl
          have cf4 := (HB2.out.box 5 _ _ rfl).froz 4 _ rfl
          have cf5 := (HB2.out.box 5 _ _ rfl).froz 5 _ rfl
          have cf6 := (HB2.out.box 5 _ _ rfl).froz 6 _ rfl
          have cf7 := (HB2.out.box 5 _ _ rfl).froz 7 _ rfl
          have cf8 := (HB2.out.box 5 _ _ rfl).froz 8 _ rfl
          have cf9 := (HB2.out.box 5 _ _ rfl).froz 9 _ rfl
          have cf10 := (HB2.out.box 5 _ _ rfl).froz 10 _ rfl
          have cf11 := (HB2.out.box 5 _ _ rfl).froz 11 _ rfl
          go_upto_region 7 with (fail)
          try rw [hw6]
          clear hw6 HB2
          clear cl c0 c1 c2 c3 c4 c5 c6 c7 c8 c9 c10 c11
          clear cf0 cf1 cf2 cf3 cf4 cf5 cf6 cf7 cf8 cf9 cf10 cf11
          have dl := (HB3.out.box 1 _ _ rfl).lt
          have d0 := (HB3.out.box 1 _ _ rfl).cell 0 _ rfl
          have d1 := (HB3.out.box 1 _ _ rfl).cell 1 _ rfl
          have d2 := (HB3.out.box 1 _ _ rfl).cell 2 _ rfl
          have d3 := (HB3.out.box 1 _ _ rfl).cell 3 _ rfl
          rcases HS.out 3 (by omega) with ⟨ho, hc⟩ | ⟨ho, hc⟩
          · rw [HM2.out] at hc
            have CL : Hid (_) := hc
            clear hc
            rw [ho] at d3
            clear ho
            have cl := (HB3.out.box 5 _ _ rfl).lt
            have c0 := (HB3.out.box 5 _ _ rfl).cell 0 _ rfl
            have c1 := (HB3.out.box 5 _ _ rfl).cell 1 _ rfl
            have c2 := (HB3.out.box 5 _ _ rfl).cell 2 _ rfl
            have c3 := (HB3.out.box 5 _ _ rfl).cell 3 _ rfl
            have c4 := (HB3.out.box 5 _ _ rfl).cell 4 _ rfl
            have c5 := (HB3.out.box 5 _ _ rfl).cell 5 _ rfl
            have c6 := (HB3.out.box 5 _ _ rfl).cell 6 _ rfl
            have c7 := (HB3.out.box 5 _ _ rfl).cell 7 _ rfl
            have c8 := (HB3.out.box 5 _ _ rfl).cell 8 _ rfl
            have c9 := (HB3.out.box 5 _ _ rfl).cell 9 _ rfl
            have c10 := (HB3.out.box 5 _ _ rfl).cell 10 _ rfl
            have c11 := (HB3.out.box 5 _ _ rfl).cell 11 _ rfl
            go_wp2_with fail
            refine (CL.out _).mono ?_
            rintro r w7 ⟨rfl, hb⟩
            have HB4 : Hid (_) := HB3.out.step hb
            clear hb HB3 CL
            clear cl c0 c1 c2 c3 c4 c5 c6 c7 c8 c9 c10 c11
            clear dl d0 d1 d2 d3
            have cl := (HB4.out.box 5 _ _ rfl).lt
            have c0 := (HB4.out.box 5 _ _ rfl).cell 0 _ rfl
            have c1 := (HB4.out.box 5 _ _ rfl).cell 1 _ rfl
            have c2 := (HB4.out.box 5 _ _ rfl).cell 2 _ rfl
            have c3 := (HB4.out.box 5 _ _ rfl).cell 3 _ rfl
            have c4 := (HB4.out.box 5 _ _ rfl).cell 4 _ rfl
            have c5 := (HB4.out.box 5 _ _ rfl).cell 5 _ rfl
            have c6 := (HB4.out.box 5 _ _ rfl).cell 6 _ rfl
            have c7 := (HB4.out.box 5 _ _ rfl).cell 7 _ rfl
            have c8 := (HB4.out.box 5 _ _ rfl).cell 8 _ rfl
            have c9 := (HB4.out.box 5 _ _ rfl).cell 9 _ rfl
            have c10 := (HB4.out.box 5 _ _ rfl).cell 10 _ rfl
            have c11 := (HB4.out.box 5 _ _ rfl).cell 11 _ rfl
            have cf0 := (HB4.out.box 5 _ _ rfl).froz 0 _ rfl
            have cf1 := (HB4.out.box 5 _ _ rfl).froz 1 _ rfl
            have cf2 := (HB4.out.box 5 _ _ rfl).froz 2 _ rfl
            have cf3 := (HB4.out.box 5 _ _ rfl).froz 3 _ rfl
            have cf4 := (HB4.out.box 5 _ _ rfl).froz 4 _ rfl
            have cf5 := (HB4.out.box 5 _ _ rfl).froz 5 _ rfl
            have cf6 := (HB4.out.box 5 _ _ rfl).froz 6 _ rfl
            have cf7 := (HB4.out.box 5 _ _ rfl).froz 7 _ rfl
            have cf8 := (HB4.out.box 5 _ _ rfl).froz 8 _ rfl
            have cf9 := (HB4.out.box 5 _ _ rfl).froz 9 _ rfl
            have cf10 := (HB4.out.box 5 _ _ rfl).froz 10 _ rfl
            have cf11 := (HB4.out.box 5 _ _ rfl).froz 11 _ rfl
            go_wp2_with fail
            obtain ⟨w8, hw8, HB5⟩ := HB4.out.lane 5 _ B rfl 3 (by omega) 9 10 11 rfl rfl rfl (s 3)
            rw [hw8]
            rw [HQ.out] at HB5
            clear hw8
            go_roundg (4 - (3 + 1) + 1)
            case measure => omega
            case rel => exact ⟨4, rfl, by omega, by omega, HB5⟩
          · have HU : Hid (upS (3 + 1) t s = B) := by rw [← HQ.out]; exact putS_self (hc.trans HM2.out)
            clear hc
            rw [ho] at d3
            clear ho
            go_wp2_with fail
            have HB5 := HB3.out
            rw [← HU.out] at HB5
            go_roundg (4 - (3 + 1) + 1)
            case measure => omega
            case rel => exact ⟨4, rfl, by omega, by omega, HB5⟩
        · have HM2 : Hid (a 3 = X 3) := hc.trans HT.out
          clear hc
          have dl := (HB.out.box 1 _ _ rfl).lt
          have d0 := (HB.out.box 1 _ _ rfl).cell 0 _ rfl
          have d1 := (HB.out.box 1 _ _ rfl).cell 1 _ rfl
          have d2 := (HB.out.box 1 _ _ rfl).cell 2 _ rfl
          have d3 := (HB.out.box 1 _ _ rfl).cell 3 _ rfl
          have el := (HB.out.box 2 _ _ rfl).lt
          have e0 := (HB.out.box 2 _ _ rfl).cell 0 _ rfl
          have e1 := (HB.out.box 2 _ _ rfl).cell 1 _ rfl
          have e2 := (HB.out.box 2 _ _ rfl).cell 2 _ rfl
          have e3 := (HB.out.box 2 _ _ rfl).cell 3 _ rfl
          rw [hf] at e3
          clear hf
          rcases HS.out 3 (by omega) with ⟨ho, hc⟩ | ⟨ho, hc⟩
          · rw [HM2.out] at hc
            have CL : Hid (_) := hc
            clear hc
            rw [ho] at d3
            clear ho
            have cl := (HB.out.box 5 _ _ rfl).lt
            have c0 := (HB.out.box 5 _ _ rfl).cell 0 _ rfl
            have c1 := (HB.out.box 5 _ _ rfl).cell 1 _ rfl
            have c2 := (HB.out.box 5 _ _ rfl).cell 2 _ rfl
            have c3 := (HB.out.box 5 _ _ rfl).cell 3 _ rfl
            have c4 := (HB.out.box 5 _ _ rfl).cell 4 _ rfl
            have c5 := (HB.out.box 5 _ _ rfl).cell 5 _ rfl
            have c6 := (HB.out.box 5 _ _ rfl).cell 6 _ rfl
            have c7 := (HB.out.box 5 _ _ rfl).cell 7 _ rfl
            have c8 := (HB.out.box 5 _ _ rfl).cell 8 _ rfl
            have c9 := (HB.out.box 5 _ _ rfl).cell 9 _ rfl
            have c10 := (HB.out.box 5 _ _ rfl).cell 10 _ rfl
            have c11 := (HB.out.box 5 _ _ rfl).cell 11 _ rfl
            go_wp2_with fail
            refine (CL.out _).mono ?_
            rintro r w7 ⟨rfl, hb⟩
            have HB4 : Hid (_) := HB.out.step hb
            clear hb HB CL
            clear cl c0 c1 c2 c3 c4 c5 c6 c7 c8 c9 c10 c11
            clear dl d0 d1 d2 d3
            clear el e0 e1 e2 e3
            have cl := (HB4.out.box 5 _ _ rfl).lt
            have c0 := (HB4.out.box 5 _ _ rfl).cell 0 _ rfl
            have c1 := (HB4.out.box 5 _ _ rfl).cell 1 _ rfl
            have c2 := (HB4.out.box 5 _ _ rfl).cell 2 _ rfl
            have c3 := (HB4.out.box 5 _ _ rfl).cell 3 _ rfl
            have c4 := (HB4.out.box 5 _ _ rfl).cell 4 _ rfl
            have c5 := (HB4.out.box 5 _ _ rfl).cell 5 _ rfl
            have c6 := (HB4.out.box 5 _ _ rfl).cell 6 _ rfl
            have c7 := (HB4.out.box 5 _ _ rfl).cell 7 _ rfl
            have c8 := (HB4.out.box 5 _ _ rfl).cell 8 _ rfl
            have c9 := (HB4.out.box 5 _ _ rfl).cell 9 _ rfl
            have c10 := (HB4.out.box 5 _ _ rfl).cell 10 _ rfl
            have c11 := (HB4.out.box 5 _ _ rfl).cell 11 _ rfl
            have cf0 := (HB4.out.box 5 _ _ rfl).froz 0 _ rfl
            have cf1 := (HB4.out.box 5 _ _ rfl).froz 1 _ rfl
            have cf2 := (HB4.out.box 5 _ _ rfl).froz 2 _ rfl
            have cf3 := (HB4.out.box 5 _ _ rfl).froz 3 _ rfl
            have cf4 := (HB4.out.box 5 _ _ rfl).froz 4 _ rfl
            have cf5 := (HB4.out.box 5 _ _ rfl).froz 5 _ rfl
            have cf6 := (HB4.out.box 5 _ _ rfl).froz 6 _ rfl
            have cf7 := (HB4.out.box 5 _ _ rfl).froz 7 _ rfl
            have cf8 := (HB4.out.box 5 _ _ rfl).froz 8 _ rfl
            have cf9 := (HB4.out.box 5 _ _ rfl).froz 9 _ rfl
            have cf10 := (HB4.out.box 5 _ _ rfl).froz 10 _ rfl
            have cf11 := (HB4.out.box 5 _ _ rfl).froz 11 _ rfl
            go_wp2_with fail
            obtain ⟨w8, hw8, HB5⟩ := HB4.out.lane 5 _ X rfl 3 (by omega) 9 10 11 rfl rfl rfl (s 3)
            rw [hw8]
            rw [HN.out] at HB5
            clear hw8
            go_roundg (4 - (3 + 1) + 1)
            case measure => omega
            case rel => exact ⟨4, rfl, by omega, by omega, HB5⟩
          · have HU : Hid (upS (3 + 1) t s = X) := by rw [← HN.out]; exact putS_self (hc.trans HM2.out)
            clear hc
            rw [ho] at d3
            clear ho
            go_wp2_with fail
            have HB5 := HB.out
            rw [← HU.out] at HB5
            go_roundg (4 - (3 + 1) + 1)
            case measure => omega
            case rel => exact ⟨4, rfl, by omega, by omega, HB5⟩
    · obtain rfl : j = 4 := by omega
      have HB1 : Hid (Bxs w [(w.heap.size, [.int .i64 (t 0).m, .bool (t 0).f, .int .i64 (t 0).n, .int .i64 (t 1).m, .bool (t 1).f, .int .i64 (t 1).n, .int .i64 (t 2).m, .bool (t 2).f, .int .i64 (t 2).n, .int .i64 (t 3).m, .bool (t 3).f, .int .i64 (t 3).n]), (w.heap.size + 1, [.bool (o 0), .bool (o 1), .bool (o 2), .bool (o 3)]), (w.heap.size + 1 + 1, [.bool (f 0), .bool (f 1), .bool (f 2), .bool (f 3)]), (w.heap.size + 1 + 1 + 1, [.int .i64 0, .bool false, .int .i64 0, .int .i64 0, .bool false, .int .i64 0, .int .i64 0, .bool false, .int .i64 0, .int .i64 0, .bool false, .int .i64 0]), (w.heap.size + 1 + 1 + 1 + 1, [.int .i64 0, .int .i64 0, .bool false]), (w.heap.size + 1 + 1 + 1 + 1 + 1, [.int .i64 (s 0).m, .bool (s 0).f, .int .i64 (s 0).n, .int .i64 (s 1).m, .bool (s 1).f, .int .i64 (s 1).n, .int .i64 (s 2).m, .bool (s 2).f, .int .i64 (s 2).n, .int .i64 (s 3).m, .bool (s 3).f, .int .i64 (s 3).n])] wr) := by have := HB.out; rw [HZ.out] at this; exact this
      clear HB HZ HT HN HA HS hlt hg hj
      clear X
      have cl := (HB1.out.box 5 _ _ rfl).lt
      have c0 := (HB1.out.box 5 _ _ rfl).cell 0 _ rfl
      have c1 := (HB1.out.box 5 _ _ rfl).cell 1 _ rfl
      have c2 := (HB1.out.box 5 _ _ rfl).cell 2 _ rfl
      have c3 := (HB1.out.box 5 _ _ rfl).cell 3 _ rfl
      have c4 := (HB1.out.box 5 _ _ rfl).cell 4 _ rfl
      have c5 := (HB1.out.box 5 _ _ rfl).cell 5 _ rfl
      have c6 := (HB1.out.box 5 _ _ rfl).cell 6 _ rfl
      have c7 := (HB1.out.box 5 _ _ rfl).cell 7 _ rfl
      have c8 := (HB1.out.box 5 _ _ rfl).cell 8 _ rfl
      have c9 := (HB1.out.box 5 _ _ rfl).cell 9 _ rfl
      have c10 := (HB1.out.box 5 _ _ rfl).cell 10 _ rfl
      have c11 := (HB1.out.box 5 _ _ rfl).cell 11 _ rfl
      have dl := (HB1.out.box 1 _ _ rfl).lt
      have d0 := (HB1.out.box 1 _ _ rfl).cell 0 _ rfl
      have d1 := (HB1.out.box 1 _ _ rfl).cell 1 _ rfl
      have d2 := (HB1.out.box 1 _ _ rfl).cell 2 _ rfl
      have d3 := (HB1.out.box 1 _ _ rfl).cell 3 _ rfl
      go_wp2_with fail
      refine (CU.out _).mono ?_
      rintro r w2 ⟨ua, uc, rfl, hri, hb⟩
      have HB2 : Hid (Bxs w [(w.heap.size, [.int .i64 (t 0).m, .bool (t 0).f, .int .i64 (t 0).n, .int .i64 (t 1).m, .bool (t 1).f, .int .i64 (t 1).n, .int .i64 (t 2).m, .bool (t 2).f, .int .i64 (t 2).n, .int .i64 (t 3).m, .bool (t 3).f, .int .i64 (t 3).n]), (w.heap.size + 1, [.bool (o 0), .bool (o 1), .bool (o 2), .bool (o 3)]), (w.heap.size + 1 + 1, [.bool (f 0), .bool (f 1), .bool (f 2), .bool (f 3)]), (w.heap.size + 1 + 1 + 1, [.int .i64 0, .bool false, .int .i64 0, .int .i64 0, .bool false, .int .i64 0, .int .i64 0, .bool false, .int .i64 0, .int .i64 0, .bool false, .int .i64 0]), (w.heap.size + 1 + 1 + 1 + 1, [.int .i64 0, .int .i64 0, .bool false]), (w.heap.size + 1 + 1 + 1 + 1 + 1, [.int .i64 ((upS 0 s (A 0)) 0).m, .bool ((upS 0 s (A 0)) 0).f, .int .i64 ((upS 0 s (A 0)) 0).n, .int .i64 ((upS 0 s (A 0)) 1).m, .bool ((upS 0 s (A 0)) 1).f, .int .i64 ((upS 0 s (A 0)) 1).n, .int .i64 ((upS 0 s (A 0)) 2).m, .bool ((upS 0 s (A 0)) 2).f, .int .i64 ((upS 0 s (A 0)) 2).n, .int .i64 ((upS 0 s (A 0)) 3).m, .bool ((upS 0 s (A 0)) 3).f, .int .i64 ((upS 0 s (A 0)) 3).n])] w2) := HB1.out.step hb
      have h5N := (HB1.out.box 5 _ _ rfl).lt
      have HR2 : Hid (RB wr.heap.size w2 ua n U) := hri
      clear hri hb HB1 CU
      clear cl c0 c1 c2 c3 c4 c5 c6 c7 c8 c9 c10 c11
      clear dl d0 d1 d2 d3
      obtain ⟨N0, hN0⟩ : ∃ N0, N0 = wr.heap.size := ⟨_, rfl⟩
      rw [← hN0] at HR2 h5N
      have H5N : Hid (w.heap.size + 1 + 1 + 1 + 1 + 1 < N0) := h5N
      clear hN0 h5N
      go_wp2_with fail
      go_loopg [44] (5) (fun g s1 wr => ∃ j : Nat, s1 = .int .i64 j ∧ 4 - j < g ∧ j ≤ 4 ∧ Hid (RB N0 wr ua n U) ∧ Hid (Bxs w [(w.heap.size, [.int .i64 (t 0).m, .bool (t 0).f, .int .i64 (t 0).n, .int .i64 (t 1).m, .bool (t 1).f, .int .i64 (t 1).n, .int .i64 (t 2).m, .bool (t 2).f, .int .i64 (t 2).n, .int .i64 (t 3).m, .bool (t 3).f, .int .i64 (t 3).n]), (w.heap.size + 1, [.bool (o 0), .bool (o 1), .bool (o 2), .bool (o 3)]), (w.heap.size + 1 + 1, [.bool (f 0), .bool (f 1), .bool (f 2), .bool (f 3)]), (w.heap.size + 1 + 1 + 1, [.int .i64 0, .bool false, .int .i64 0, .int .i64 0, .bool false, .int .i64 0, .int .i64 0, .bool false, .int .i64 0, .int .i64 0, .bool false, .int .i64 0]), (w.heap.size + 1 + 1 + 1 + 1, [.int .i64 0, .int .i64 0, .bool false]), (w.heap.size + 1 + 1 + 1 + 1 + 1, [.int .i64 ((upS j s (A 0)) 0).m, .bool ((upS j s (A 0)) 0).f, .int .i64 ((upS j s (A 0)) 0).n, .int .i64 ((upS j s (A 0)) 1).m, .bool ((upS j s (A 0)) 1).f, .int .i64 ((upS j s (A 0)) 1).n, .int .i64 ((upS j s (A 0)) 2).m, .bool ((upS j s (A 0)) 2).f, .int .i64 ((upS j s (A 0)) 2).n, .int .i64 ((upS j s (A 0)) 3).m, .bool ((upS j s (A 0)) 3).f, .int .i64 ((upS j s (A 0)) 3).n])] wr))
      case atStart => exact ⟨0, rfl, by omega, by omega, HR2, HB2⟩
      case round =>
        obtain ⟨j, rfl, hg, hj, HR, HB'⟩ := hrel
        clear HB2 HR2
        obtain ⟨X, hX⟩ : ∃ X, X = upS j s (A 0) := ⟨_, rfl⟩
        have HB : Hid (Bxs w [(w.heap.size, [.int .i64 (t 0).m, .bool (t 0).f, .int .i64 (t 0).n, .int .i64 (t 1).m, .bool (t 1).f, .int .i64 (t 1).n, .int .i64 (t 2).m, .bool (t 2).f, .int .i64 (t 2).n, .int .i64 (t 3).m, .bool (t 3).f, .int .i64 (t 3).n]), (w.heap.size + 1, [.bool (o 0), .bool (o 1), .bool (o 2), .bool (o 3)]), (w.heap.size + 1 + 1, [.bool (f 0), .bool (f 1), .bool (f 2), .bool (f 3)]), (w.heap.size + 1 + 1 + 1, [.int .i64 0, .bool false, .int .i64 0, .int .i64 0, .bool false, .int .i64 0, .int .i64 0, .bool false, .int .i64 0, .int .i64 0, .bool false, .int .i64 0]), (w.heap.size + 1 + 1 + 1 + 1, [.int .i64 0, .int .i64 0, .bool false]), (w.heap.size + 1 + 1 + 1 + 1 + 1, [.int .i64 (X 0).m, .bool (X 0).f, .int .i64 (X 0).n, .int .i64 (X 1).m, .bool (X 1).f, .int .i64 (X 1).n, .int .i64 (X 2).m, .bool (X 2).f, .int .i64 (X 2).n, .int .i64 (X 3).m, .bool (X 3).f, .int .i64 (X 3).n])] wr) := by rw [hX]; exact HB'.out
        have HT : Hid (s j = X j) := by rw [hX]; exact (upS_at j s (A 0)).symm
        have HN : Hid (putS X j (A 0 j) = upS (j + 1) s (A 0)) := by rw [hX]; exact putS_up s (A 0) j
        have HZ : Hid (X = upS j s (A 0)) := hX
        clear hX HB'
        by_cases hlt : j < 4
        · obtain rfl | rfl | rfl | rfl := cases4 hlt
          · rcases HE.out 0 (by omega) with ⟨he, hc⟩ | ⟨he, hd, hc⟩ | ⟨he, hd, hc⟩
            · rw [HT.out] at hc
              subst he
              have CK : Hid (_) := hc
              clear hc
              have cl := (HB.out.box 5 _ _ rfl).lt
              have c0 := (HB.out.box 5 _ _ rfl).cell 0 _ rfl
              have c1 := (HB.out.box 5 _ _ rfl).cell 1 _ rfl
              have c2 := (HB.out.box 5 _ _ rfl).cell 2 _ rfl
              have c3 := (HB.out.box 5 _ _ rfl).cell 3 _ rfl
              have c4 := (HB.out.box 5 _ _ rfl).cell 4 _ rfl
              have c5 := (HB.out.box 5 _ _ rfl).cell 5 _ rfl
              have c6 := (HB.out.box 5 _ _ rfl).cell 6 _ rfl
              have c7 := (HB.out.box 5 _ _ rfl).cell 7 _ rfl
              have c8 := (HB.out.box 5 _ _ rfl).cell 8 _ rfl
              have c9 := (HB.out.box 5 _ _ rfl).cell 9 _ rfl
              have c10 := (HB.out.box 5 _ _ rfl).cell 10 _ rfl
              have c11 := (HB.out.box 5 _ _ rfl).cell 11 _ rfl
              go_wp2_with fail
              refine (CK.out _).mono ?_
              rintro r w5 ⟨rfl, hb⟩
              have HB2 : Hid (_) := HB.out.step hb
              have HR2 : Hid (RB N0 w5 ua 0 U) := RB.step HR.out hb
              clear hb HB CK HR
              clear cl c0 c1 c2 c3 c4 c5 c6 c7 c8 c9 c10 c11
              have cl := (HB2.out.box 5 _ _ rfl).lt
              have c0 := (HB2.out.box 5 _ _ rfl).cell 0 _ rfl
              have c1 := (HB2.out.box 5 _ _ rfl).cell 1 _ rfl
              have c2 := (HB2.out.box 5 _ _ rfl).cell 2 _ rfl
              have c3 := (HB2.out.box 5 _ _ rfl).cell 3 _ rfl
              have c4 := (HB2.out.box 5 _ _ rfl).cell 4 _ rfl
              have c5 := (HB2.out.box 5 _ _ rfl).cell 5 _ rfl
              have c6 := (HB2.out.box 5 _ _ rfl).cell 6 _ rfl
              have c7 := (HB2.out.box 5 _ _ rfl).cell 7 _ rfl
              have c8 := (HB2.out.box 5 _ _ rfl).cell 8 _ rfl
              have c9 := (HB2.out.box 5 _ _ rfl).cell 9 _ rfl
              have c10 := (HB2.out.box 5 _ _ rfl).cell 10 _ rfl
              have c11 := (HB2.out.box 5 _ _ rfl).cell 11 _ rfl
              have cf0 := (HB2.out.box 5 _ _ rfl).froz 0 _ rfl
              have cf1 := (HB2.out.box 5 _ _ rfl).froz 1 _ rfl
              have cf2 := (HB2.out.box 5 _ _ rfl).froz 2 _ rfl
              have cf3 := (HB2.out.box 5 _ _ rfl).froz 3 _ rfl
              have cf4 := (HB2.out.box 5 _ _ rfl).froz 4 _ rfl
              have cf5 := (HB2.out.box 5 _ _ rfl).froz 5 _ rfl
              have cf6 := (HB2.out.box 5 _ _ rfl).froz 6 _ rfl
              have cf7 := (HB2.out.box 5 _ _ rfl).froz 7 _ rfl
              have cf8 := (HB2.out.box 5 _ _ rfl).froz 8 _ rfl
              have cf9 := (HB2.out.box 5 _ _ rfl).froz 9 _ rfl
              have cf10 := (HB2.out.box 5 _ _ rfl).froz 10 _ rfl
              have cf11 := (HB2.out.box 5 _ _ rfl).froz 11 _ rfl
              go_wp2_with fail
              obtain ⟨w6, hw6, HB3⟩ := HB2.out.lane 5 _ X rfl 0 (by omega) 0 1 2 rfl rfl rfl (A 0 0)
              have HR3 := ((HR2.out.other H5N.out (.int .i64 (A 0 0).m) (j := 0)).other H5N.out (.bool (A 0 0).f) (j := 1)).other H5N.out (.int .i64 (A 0 0).n) (j := 2)
              rw [hw6] at HR3
              rw [hw6]
              rw [HN.out] at HB3
              clear hw6
              go_roundg (4 - (0 + 1) + 1)
              case measure => omega
              case rel => exact ⟨1, rfl, by omega, by omega, HR3, HB3⟩
            · rw [HT.out] at hc hd
              have CK : Hid (_) := hc
              clear hc
              have cl := (HB.out.box 5 _ _ rfl).lt
              have c0 := (HB.out.box 5 _ _ rfl).cell 0 _ rfl
              have c1 := (HB.out.box 5 _ _ rfl).cell 1 _ rfl
              have c2 := (HB.out.box 5 _ _ rfl).cell 2 _ rfl
              have c3 := (HB.out.box 5 _ _ rfl).cell 3 _ rfl
              have c4 := (HB.out.box 5 _ _ rfl).cell 4 _ rfl
              have c5 := (HB.out.box 5 _ _ rfl).cell 5 _ rfl
              have c6 := (HB.out.box 5 _ _ rfl).cell 6 _ rfl
              have c7 := (HB.out.box 5 _ _ rfl).cell 7 _ rfl
              have c8 := (HB.out.box 5 _ _ rfl).cell 8 _ rfl
              have c9 := (HB.out.box 5 _ _ rfl).cell 9 _ rfl
              have c10 := (HB.out.box 5 _ _ rfl).cell 10 _ rfl
              have c11 := (HB.out.box 5 _ _ rfl).cell 11 _ rfl
              go_wp2_with fail
              refine (CK.out _).mono ?_
              rintro r w5 ⟨rfl, hb⟩
              have HB2 : Hid (_) := HB.out.step hb
              have HR2 : Hid (RB N0 w5 ua n U) := RB.step HR.out hb
              clear hb HB CK HR
              clear cl c0 c1 c2 c3 c4 c5 c6 c7 c8 c9 c10 c11
              have cl := (HB2.out.box 5 _ _ rfl).lt
              have c0 := (HB2.out.box 5 _ _ rfl).cell 0 _ rfl
              have c1 := (HB2.out.box 5 _ _ rfl).cell 1 _ rfl
              have c2 := (HB2.out.box 5 _ _ rfl).cell 2 _ rfl
              have c3 := (HB2.out.box 5 _ _ rfl).cell 3 _ rfl
              have c4 := (HB2.out.box 5 _ _ rfl).cell 4 _ rfl
              have c5 := (HB2.out.box 5 _ _ rfl).cell 5 _ rfl
              have c6 := (HB2.out.box 5 _ _ rfl).cell 6 _ rfl
              have c7 := (HB2.out.box 5 _ _ rfl).cell 7 _ rfl
              have c8 := (HB2.out.box 5 _ _ rfl).cell 8 _ rfl
              have c9 := (HB2.out.box 5 _ _ rfl).cell 9 _ rfl
              have c10 := (HB2.out.box 5 _ _ rfl).cell 10 _ rfl
              have c11 := (HB2.out.box 5 _ _ rfl).cell 11 _ rfl
              have cf0 := (HB2.out.box 5 _ _ rfl).froz 0 _ rfl
              have cf1 := (HB2.out.box 5 _ _ rfl).froz 1 _ rfl
              have cf2 := (HB2.out.box 5 _ _ rfl).froz 2 _ rfl
              have cf3 := (HB2.out.box 5 _ _ rfl).froz 3 _ rfl
              have cf4 := (HB2.out.box 5 _ _ rfl).froz 4 _ rfl
              have cf5 := (HB2.out.box 5 _ _ rfl).froz 5 _ rfl
              have cf6 := (HB2.out.box 5 _ _ rfl).froz 6 _ rfl
              have cf7 := (HB2.out.box 5 _ _ rfl).froz 7 _ rfl
              have cf8 := (HB2.out.box 5 _ _ rfl).froz 8 _ rfl
              have cf9 := (HB2.out.box 5 _ _ rfl).froz 9 _ rfl
              have cf10 := (HB2.out.box 5 _ _ rfl).froz 10 _ rfl
              have cf11 := (HB2.out.box 5 _ _ rfl).froz 11 _ rfl
              go_wp2_with fail
              obtain ⟨w6, hw6, HB3⟩ := HB2.out.lane 5 _ X rfl 0 (by omega) 0 1 2 rfl rfl rfl (A 0 0)
              have HR3 := ((HR2.out.other H5N.out (.int .i64 (A 0 0).m) (j := 0)).other H5N.out (.bool (A 0 0).f) (j := 1)).other H5N.out (.int .i64 (A 0 0).n) (j := 2)
              rw [hw6] at HR3
              rw [hw6]
              rw [HN.out] at HB3
              clear hw6
              go_roundg (4 - (0 + 1) + 1)
              case measure => omega
              case rel => exact ⟨1, rfl, by omega, by omega, HR3, HB3⟩
            · have HU : Hid (upS (0 + 1) s (A 0) = X) := by rw [← HN.out]; exact putS_self (hc.trans HT.out)
              clear hc
              rw [HT.out] at hd
              have cl := (HB.out.box 5 _ _ rfl).lt
              have c0 := (HB.out.box 5 _ _ rfl).cell 0 _ rfl
              have c1 := (HB.out.box 5 _ _ rfl).cell 1 _ rfl
              have c2 := (HB.out.box 5 _ _ rfl).cell 2 _ rfl
              have c3 := (HB.out.box 5 _ _ rfl).cell 3 _ rfl
              have c4 := (HB.out.box 5 _ _ rfl).cell 4 _ rfl
              have c5 := (HB.out.box 5 _ _ rfl).cell 5 _ rfl
              have c6 := (HB.out.box 5 _ _ rfl).cell 6 _ rfl
              have c7 := (HB.out.box 5 _ _ rfl).cell 7 _ rfl
              have c8 := (HB.out.box 5 _ _ rfl).cell 8 _ rfl
              have c9 := (HB.out.box 5 _ _ rfl).cell 9 _ rfl
              have c10 := (HB.out.box 5 _ _ rfl).cell 10 _ rfl
              have c11 := (HB.out.box 5 _ _ rfl).cell 11 _ rfl
              go_wp2_with fail
              have HB5 := HB.out
              rw [← HU.out] at HB5
              go_roundg (4 - (0 + 1) + 1)
              case measure => omega
              case rel => exact ⟨1, rfl, by omega, by omega, HR, HB5⟩
          · rcases HE.out 1 (by omega) with ⟨he, hc⟩ | ⟨he, hd, hc⟩ | ⟨he, hd, hc⟩
            · rw [HT.out] at hc
              subst he
              have CK : Hid (_) := hc
              clear hc
              have cl := (HB.out.box 5 _ _ rfl).lt
              have c0 := (HB.out.box 5 _ _ rfl).cell 0 _ rfl
              have c1 := (HB.out.box 5 _ _ rfl).cell 1 _ rfl
              have c2 := (HB.out.box 5 _ _ rfl).cell 2 _ rfl
              have c3 := (HB.out.box 5 _ _ rfl).cell 3 _ rfl
              have c4 := (HB.out.box 5 _ _ rfl).cell 4 _ rfl
              have c5 := (HB.out.box 5 _ _ rfl).cell 5 _ rfl
              have c6 := (HB.out.box 5 _ _ rfl).cell 6 _ rfl
              have c7 := (HB.out.box 5 _ _ rfl).cell 7 _ rfl
              have c8 := (HB.out.box 5 _ _ rfl).cell 8 _ rfl
              have c9 := (HB.out.box 5 _ _ rfl).cell 9 _ rfl
              have c10 := (HB.out.box 5 _ _ rfl).cell 10 _ rfl
              have c11 := (HB.out.box 5 _ _ rfl).cell 11 _ rfl
              go_wp2_with fail
              refine (CK.out _).mono ?_
              rintro r w5 ⟨rfl, hb⟩
              have HB2 : Hid (_) := HB.out.step hb
              have HR2 : Hid (RB N0 w5 ua 0 U) := RB.step HR.out hb
              clear hb HB CK HR
              clear cl c0 c1 c2 c3 c4 c5 c6 c7 c8 c9 c10 c11
              have cl := (HB2.out.box 5 _ _ rfl).lt
              have c0 := (HB2.out.box 5 _ _ rfl).cell 0 _ rfl
              have c1 := (HB2.out.box 5 _ _ rfl).cell 1 _ rfl
              have c2 := (HB2.out.box 5 _ _ rfl).cell 2 _ rfl
              have c3 := (HB2.out.box 5 _ _ rfl).cell 3 _ rfl
              have c4 := (HB2.out.box 5 _ _ rfl).cell 4 _ rfl
              have c5 := (HB2.out.box 5 _ _ rfl).cell 5 _ rfl
              have c6 := (HB2.out.box 5 _ _ rfl).cell 6 _ rfl
              have c7 := (HB2.out.box 5 _ _ rfl).cell 7 _ rfl
              have c8 := (HB2.out.box 5 _ _ rfl).cell 8 _ rfl
              have c9 := (HB2.out.box 5 _ _ rfl).cell 9 _ rfl
              have c10 := (HB2.out.box 5 _ _ rfl).cell 10 _ rfl
              have c11 := (HB2.out.box 5 _ _ rfl).cell 11 _ rfl
              have cf0 := (HB2.out.box 5 _ _ rfl).froz 0 _ rfl
              have cf1 := (HB2.out.box 5 _ _ rfl).froz 1 _ rfl
              have cf2 := (HB2.out.box 5 _ _ rfl).froz 2 _ rfl
              have cf3 := (HB2.out.box 5 _ _ rfl).froz 3 _ rfl
              have cf4 := (HB2.out.box 5 _ _ rfl).froz 4 _ rfl
              have cf5 := (HB2.out.box 5 _ _ rfl).froz 5 _ rfl
              have cf6 := (HB2.out.box 5 _ _ rfl).froz 6 _ rfl
              have cf7 := (HB2.out.box 5 _ _ rfl).froz 7 _ rfl
              have cf8 := (HB2.out.box 5 _ _ rfl).froz 8 _ rfl
              have cf9 := (HB2.out.box 5 _ _ rfl).froz 9 _ rfl
              have cf10 := (HB2.out.box 5 _ _ rfl).froz 10 _ rfl
              have cf11 := (HB2.out.box 5 _ _ rfl).froz 11 _ rfl
              go_wp2_with fail
              obtain ⟨w6, hw6, HB3⟩ := HB2.out.lane 5 _ X rfl 1 (by omega) 3 4 5 rfl rfl rfl (A 0 1)
              have HR3 := ((HR2.out.other H5N.out (.int .i64 (A 0 1).m) (j := 3)).other H5N.out (.bool (A 0 1).f) (j := 4)).other H5N.out (.int .i64 (A 0 1).n) (j := 5)
              rw [hw6] at HR3
              rw [hw6]
              rw [HN.out] at HB3
              clear hw6
              go_roundg (4 - (1 + 1) + 1)
              case measure => omega
              case rel => exact ⟨2, rfl, by omega, by omega, HR3, HB3⟩
            · rw [HT.out] at hc hd
              have CK : Hid (_) := hc
              clear hc
              have cl := (HB.out.box 5 _ _ rfl).lt
              have c0 := (HB.out.box 5 _ _ rfl).cell 0 _ rfl
              have c1 := (HB.out.box 5 _ _ rfl).cell 1 _ rfl
              have c2 := (HB.out.box 5 _ _ rfl).cell 2 _ rfl
              have c3 := (HB.out.box 5 _ _ rfl).cell 3 _ rfl
              have c4 := (HB.out.box 5 _ _ rfl).cell 4 _ rfl
              have c5 := (HB.out.box 5 _ _ rfl).cell 5 _ rfl
              have c6 := (HB.out.box 5 _ _ rfl).cell 6 _ rfl
              have c7 := (HB.out.box 5 _ _ rfl).cell 7 _ rfl
              have c8 := (HB.out.box 5 _ _ rfl).cell 8 _ rfl
              have c9 := (HB.out.box 5 _ _ rfl).cell 9 _ rfl
              have c10 := (HB.out.box 5 _ _ rfl).cell 10 _ rfl
              have c11 := (HB.out.box 5 _ _ rfl).cell 11 _ rfl
              go_wp2_with fail
              refine (CK.out _).mono ?_
              rintro r w5 ⟨rfl, hb⟩
              have HB2 : Hid (_) := HB.out.step hb
              have HR2 : Hid (RB N0 w5 ua n U) := RB.step HR.out hb
              clear hb HB CK HR
              clear cl c0 c1 c2 c3 c4 c5 c6 c7 c8 c9 c10 c11
              have cl := (HB2.out.box 5 _ _ rfl).lt
              have c0 := (HB2.out.box 5 _ _ rfl).cell 0 _ rfl
              have c1 := (HB2.out.box 5 _ _ rfl).cell 1 _ rfl
              have c2 := (HB2.out.box 5 _ _ rfl).cell 2 _ rfl
              have c3 := (HB2.out.box 5 _ _ rfl).cell 3 _ rfl
              have c4 := (HB2.out.box 5 _ _ rfl).cell 4 _ rfl
              have c5 := (HB2.out.box 5 _ _ rfl).cell 5 _ rfl
              have c6 := (HB2.out.box 5 _ _ rfl).cell 6 _ rfl
              have c7 := (HB2.out.box 5 _ _ rfl).cell 7 _ rfl
              have c8 := (HB2.out.box 5 _ _ rfl).cell 8 _ rfl
              have c9 := (HB2.out.box 5 _ _ rfl).cell 9 _ rfl
              have c10 := (HB2.out.box 5 _ _ rfl).cell 10 _ rfl
              have c11 := (HB2.out.box 5 _ _ rfl).cell 11 _ rfl
              have cf0 := (HB2.out.box 5 _ _ rfl).froz 0 _ rfl
              have cf1 := (HB2.out.box 5 _ _ rfl).froz 1 _ rfl
              have cf2 := (HB2.out.box 5 _ _ rfl).froz 2 _ rfl
              have cf3 := (HB2.out.box 5 _ _ rfl).froz 3 _ rfl
              have cf4 := (HB2.out.box 5 _ _ rfl).froz 4 _ rfl
              have cf5 := (HB2.out.box 5 _ _ rfl).froz 5 _ rfl
              have cf6 := (HB2.out.box 5 _ _ rfl).froz 6 _ rfl
              have cf7 := (HB2.out.box 5 _ _ rfl).froz 7 _ rfl
              have cf8 := (HB2.out.box 5 _ _ rfl).froz 8 _ rfl
              have cf9 := (HB2.out.box 5 _ _ rfl).froz 9 _ rfl
              have cf10 := (HB2.out.box 5 _ _ rfl).froz 10 _ rfl
              have cf11 := (HB2.out.box 5 _ _ rfl).froz 11 _ rfl
              go_wp2_with fail
              obtain ⟨w6, hw6, HB3⟩ := HB2.out.lane 5 _ X rfl 1 (by omega) 3 4 5 rfl rfl rfl (A 0 1)
              have HR3 := ((HR2.out.other H5N.out (.int .i64 (A 0 1).m) (j := 3)).other H5N.out (.bool (A 0 1).f) (j := 4)).other H5N.out (.int .i64 (A 0 1).n) (j := 5)
              rw [hw6] at HR3
              rw [hw6]
              rw [HN.out] at HB3
              clear hw6
              go_roundg (4 - (1 + 1) + 1)
              case measure => omega
              case rel => exact ⟨2, rfl, by omega, by omega, HR3, HB3⟩
            · have HU : Hid (upS (1 + 1) s (A 0) = X) := by rw [← HN.out]; exact putS_self (hc.trans HT.out)
              clear hc
              rw [HT.out] at hd
              have cl := (HB.out.box 5 _ _ rfl).lt
              have c0 := (HB.out.box 5 _ _ rfl).cell 0 _ rfl
              have c1 := (HB.out.box 5 _ _ rfl).cell 1 _ rfl
              have c2 := (HB.out.box 5 _ _ rfl).cell 2 _ rfl
              have c3 := (HB.out.box 5 _ _ rfl).cell 3 _ rfl
              have c4 := (HB.out.box 5 _ _ rfl).cell 4 _ rfl
              have c5 := (HB.out.box 5 _ _ rfl).cell 5 _ rfl
              have c6 := (HB.out.box 5 _ _ rfl).cell 6 _ rfl
              have c7 := (HB.out.box 5 _ _ rfl).cell 7 _ rfl
              have c8 := (HB.out.box 5 _ _ rfl).cell 8 _ rfl
              have c9 := (HB.out.box 5 _ _ rfl).cell 9 _ rfl
              have c10 := (HB.out.box 5 _ _ rfl).cell 10 _ rfl
              have c11 := (HB.out.box 5 _ _ rfl).cell 11 _ rfl
              go_wp2_with fail
              have HB5 := HB.out
              rw [← HU.out] at HB5
              go_roundg (4 - (1 + 1) + 1)
              case measure => omega
              case rel => exact ⟨2, rfl, by omega, by omega, HR, HB5⟩
          · rcases HE.out 2 (by omega) with ⟨he, hc⟩ | ⟨he, hd, hc⟩ | ⟨he, hd, hc⟩
            · rw [HT.out] at hc
              subst he
              have CK : Hid (_) := hc
              clear hc
              have cl := (HB.out.box 5 _ _ rfl).lt
              have c0 := (HB.out.box 5 _ _ rfl).cell 0 _ rfl
              have c1 := (HB.out.box 5 _ _ rfl).cell 1 _ rfl
              have c2 := (HB.out.box 5 _ _ rfl).cell 2 _ rfl
              have c3 := (HB.out.box 5 _ _ rfl).cell 3 _ rfl
              have c4 := (HB.out.box 5 _ _ rfl).cell 4 _ rfl
              have c5 := (HB.out.box 5 _ _ rfl).cell 5 _ rfl
              have c6 := (HB.out.box 5 _ _ rfl).cell 6 _ rfl
              have c7 := (HB.out.box 5 _ _ rfl).cell 7 _ rfl
              have c8 := (HB.out.box 5 _ _ rfl).cell 8 _ rfl
              have c9 := (HB.out.box 5 _ _ rfl).cell 9 _ rfl
              have c10 := (HB.out.box 5 _ _ rfl).cell 10 _ rfl
              have c11 := (HB.out.box 5 _ _ rfl).cell 11 _ rfl
              go_wp2_with fail
              refine (CK.out _).mono ?_
              rintro r w5 ⟨rfl, hb⟩
              have HB2 : Hid (_) := HB.out.step hb
              have HR2 : Hid (RB N0 w5 ua 0 U) := RB.step HR.out hb
              clear hb HB CK HR
              clear cl c0 c1 c2 c3 c4 c5 c6 c7 c8 c9 c10 c11
              have cl := (HB2.out.box 5 _ _ rfl).lt
              have c0 := (HB2.out.box 5 _ _ rfl).cell 0 _ rfl
              have c1 := (HB2.out.box 5 _ _ rfl).cell 1 _ rfl
              have c2 := (HB2.out.box 5 _ _ rfl).cell 2 _ rfl
              have c3 := (HB2.out.box 5 _ _ rfl).cell 3 _ rfl
              have c4 := (HB2.out.box 5 _ _ rfl).cell 4 _ rfl
              have c5 := (HB2.out.box 5 _ _ rfl).cell 5 _ rfl
              have c6 := (HB2.out.box 5 _ _ rfl).cell 6 _ rfl
              have c7 := (HB2.out.box 5 _ _ rfl).cell 7 _ rfl
              have c8 := (HB2.out.box 5 _ _ rfl).cell 8 _ rfl
              have c9 := (HB2.out.box 5 _ _ rfl).cell 9 _ rfl
              have c10 := (HB2.out.box 5 _ _ rfl).cell 10 _ rfl
              have c11 := (HB2.out.box 5 _ _ rfl).cell 11 _ rfl
              have cf0 := (HB2.out.box 5 _ _ rfl).froz 0 _ rfl
              have cf1 := (HB2.out.box 5 _ _ rfl).froz 1 _ rfl
              have cf2 := (HB2.out.box 5 _ _ rfl).froz 2 _ rfl
              have cf3 := (HB2.out.box 5 _ _ rfl).froz 3 _ rfl
              have cf4 := (HB2.out.box 5 _ _ rfl).froz 4 _ rfl
              have cf5 := (HB2.out.box 5 _ _ rfl).froz 5 _ rfl
              have cf6 := (HB2.out.box 5 _ _ rfl).froz 6 _ rfl
              have cf7 := (HB2.out.box 5 _ _ rfl).froz 7 _ rfl
              have cf8 := (HB2.out.box 5 _ _ rfl).froz 8 _ rfl
              have cf9 := (HB2.out.box 5 _ _ rfl).froz 9 _ rfl
              have cf10 := (HB2.out.box 5 _ _ rfl).froz 10 _ rfl
              have cf11 := (HB2.out.box 5 _ _ rfl).froz 11 _ rfl
              go_wp2_with fail
              obtain ⟨w6, hw6, HB3⟩ := HB2.out.lane 5 _ X rfl 2 (by omega) 6 7 8 rfl rfl rfl (A 0 2)
              have HR3 := ((HR2.out.other H5N.out (.int .i64 (A 0 2).m) (j := 6)).other H5N.out (.bool (A 0 2).f) (j := 7)).other H5N.out (.int .i64 (A 0 2).n) (j := 8)
              rw [hw6] at HR3
              rw [hw6]
              rw [HN.out] at HB3
              clear hw6
              go_roundg (4 - (2 + 1) + 1)
              case measure => omega
              case rel => exact ⟨3, rfl, by omega, by omega, HR3, HB3⟩
            · rw [HT.out] at hc hd
              have CK : Hid (_) := hc
              clear hc
              have cl := (HB.out.box 5 _ _ rfl).lt
              have c0 := (HB.out.box 5 _ _ rfl).cell 0 _ rfl
              have c1 := (HB.out.box 5 _ _ rfl).cell 1 _ rfl
              have c2 := (HB.out.box 5 _ _ rfl).cell 2 _ rfl
              have c3 := (HB.out.box 5 _ _ rfl).cell 3 _ rfl
              have c4 := (HB.out.box 5 _ _ rfl).cell 4 _ rfl
              have c5 := (HB.out.box 5 _ _ rfl).cell 5 _ rfl
              have c6 := (HB.out.box 5 _ _ rfl).cell 6 _ rfl
              have c7 := (HB.out.box 5 _ _ rfl).cell 7 _ rfl
              have c8 := (HB.out.box 5 _ _ rfl).cell 8 _ rfl
              have c9 := (HB.out.box 5 _ _ rfl).cell 9 _ rfl
              have c10 := (HB.out.box 5 _ _ rfl).cell 10 _ rfl
              have c11 := (HB.out.box 5 _ _ rfl).cell 11 _ rfl
              go_wp2_with fail
              refine (CK.out _).mono ?_
              rintro r w5 ⟨rfl, hb⟩
              have HB2 : Hid (_) := HB.out.step hb
              have HR2 : Hid (RB N0 w5 ua n U) := RB.step HR.out hb
              clear hb HB CK HR
              clear cl c0 c1 c2 c3 c4 c5 c6 c7 c8 c9 c10 c11
              have cl := (HB2.out.box 5 _ _ rfl).lt
              have c0 := (HB2.out.box 5 _ _ rfl).cell 0 _ rfl
              have c1 := (HB2.out.box 5 _ _ rfl).cell 1 _ rfl
              have c2 := (HB2.out.box 5 _ _ rfl).cell 2 _ rfl
              have c3 := (HB2.out.box 5 _ _ rfl).cell 3 _ rfl
              have c4 := (HB2.out.box 5 _ _ rfl).cell 4 _ rfl
              have c5 := (HB2.out.box 5 _ _ rfl).cell 5 _ rfl
              have c6 := (HB2.out.box 5 _ _ rfl).cell 6 _ rfl
              have c7 := (HB2.out.box 5 _ _ rfl).cell 7 _ rfl
              have c8 := (HB2.out.box 5 _ _ rfl).cell 8 _ rfl
              have c9 := (HB2.out.box 5 _ _ rfl).cell 9 _ rfl
              have c10 := (HB2.out.box 5 _ _ rfl).cell 10 _ rfl
              have c11 := (HB2.out.box 5 _ _ rfl).cell 11 _ rfl
              have cf0 := (HB2.out.box 5 _ _ rfl).froz 0 _ rfl
              have cf1 := (HB2.out.box 5 _ _ rfl).froz 1 _ rfl
              have cf2 := (HB2.out.box 5 _ _ rfl).froz 2 _ rfl
              have cf3 := (HB2.out.box 5 _ _ rfl).froz 3 _ rfl
              have cf4 := (HB2.out.box 5 _ _ rfl).froz 4 _ rfl
              have cf5 := (HB2.out.box 5 _ _ rfl).froz 5 _ rfl
              have cf6 := (HB2.out.box 5 _ _ rfl).froz 6 _ rfl
              have cf7 := (HB2.out.box 5 _ _ rfl).froz 7 _ rfl
              have cf8 := (HB2.out.box 5 _ _ rfl).froz 8 _ rfl
              have cf9 := (HB2.out.box 5 _ _ rfl).froz 9 _ rfl
              have cf10 := (HB2.out.box 5 _ _ rfl).froz 10 _ rfl
              have cf11 := (HB2.out.box 5 _ _ rfl).froz 11 _ rfl
              go_wp2_with fail
              obtain ⟨w6, hw6, HB3⟩ := HB2.out.lane 5 _ X rfl 2 (by omega) 6 7 8 rfl rfl rfl (A 0 2)
              have HR3 := ((HR2.out.other H5N.out (.int .i64 (A 0 2).m) (j := 6)).other H5N.out (.bool (A 0 2).f) (j := 7)).other H5N.out (.int .i64 (A 0 2).n) (j := 8)
              rw [hw6] at HR3
              rw [hw6]
              rw [HN.out] at HB3
              clear hw6
              go_roundg (4 - (2 + 1) + 1)
              case measure => omega
              case rel => exact ⟨3, rfl, by omega, by omega, HR3, HB3⟩
            · have HU : Hid (upS (2 + 1) s (A 0) = X) := by rw [← HN.out]; exact putS_self (hc.trans HT.out)
              clear hc
              rw [HT.out] at hd
              have cl := (HB.out.box 5 _ _ rfl).lt
              have c0 := (HB.out.box 5 _ _ rfl).cell 0 _ rfl
              have c1 := (HB.out.box 5 _ _ rfl).cell 1 _ rfl
              have c2 := (HB.out.box 5 _ _ rfl).cell 2 _ rfl
              have c3 := (HB.out.box 5 _ _ rfl).cell 3 _ rfl
              have c4 := (HB.out.box 5 _ _ rfl).cell 4 _ rfl
              have c5 := (HB.out.box 5 _ _ rfl).cell 5 _ rfl
              have c6 := (HB.out.box 5 _ _ rfl).cell 6 _ rfl
              have c7 := (HB.out.box 5 _ _ rfl).cell 7 _ rfl
              have c8 := (HB.out.box 5 _ _ rfl).cell 8 _ rfl
              have c9 := (HB.out.box 5 _ _ rfl).cell 9 _ rfl
              have c10 := (HB.out.box 5 _ _ rfl).cell 10 _ rfl
              have c11 := (HB.out.box 5 _ _ rfl).cell 11 _ rfl
              go_wp2_with fail
              have HB5 := HB.out
              rw [← HU.out] at HB5
              go_roundg (4 - (2 + 1) + 1)
              case measure => omega
              case rel => exact ⟨3, rfl, by omega, by omega, HR, HB5⟩
          · rcases HE.out 3 (by omega) with ⟨he, hc⟩ | ⟨he, hd, hc⟩ | ⟨he, hd, hc⟩
            · rw [HT.out] at hc
              subst he
              have CK : Hid (_) := hc
              clear hc
              have cl := (HB.out.box 5 _ _ rfl).lt
              have c0 := (HB.out.box 5 _ _ rfl).cell 0 _ rfl
              have c1 := (HB.out.box 5 _ _ rfl).cell 1 _ rfl
              have c2 := (HB.out.box 5 _ _ rfl).cell 2 _ rfl
              have c3 := (HB.out.box 5 _ _ rfl).cell 3 _ rfl
              have c4 := (HB.out.box 5 _ _ rfl).cell 4 _ rfl
              have c5 := (HB.out.box 5 _ _ rfl).cell 5 _ rfl
              have c6 := (HB.out.box 5 _ _ rfl).cell 6 _ rfl
              have c7 := (HB.out.box 5 _ _ rfl).cell 7 _ rfl
              have c8 := (HB.out.box 5 _ _ rfl).cell 8 _ rfl
              have c9 := (HB.out.box 5 _ _ rfl).cell 9 _ rfl
              have c10 := (HB.out.box 5 _ _ rfl).cell 10 _ rfl
              have c11 := (HB.out.box 5 _ _ rfl).cell 11 _ rfl
              go_wp2_with fail
              refine (CK.out _).mono ?_
              rintro r w5 ⟨rfl, hb⟩
              have HB2 : Hid (_) := HB.out.step hb
              have HR2 : Hid (RB N0 w5 ua 0 U) := RB.step HR.out hb
              clear hb HB CK HR
              clear cl c0 c1 c2 c3 c4 c5 c6 c7 c8 c9 c10 c11
              have cl := (HB2.out.box 5 _ _ rfl).lt
              have c0 := (HB2.out.box 5 _ _ rfl).cell 0 _ rfl
              have c1 := (HB2.out.box 5 _ _ rfl).cell 1 _ rfl
              have c2 := (HB2.out.box 5 _ _ rfl).cell 2 _ rfl
              have c3 := (HB2.out.box 5 _ _ rfl).cell 3 _ rfl
              have c4 := (HB2.out.box 5 _ _ rfl).cell 4 _ rfl
              have c5 := (HB2.out.box 5 _ _ rfl).cell 5 _ rfl
              have c6 := (HB2.out.box 5 _ _ rfl).cell 6 _ rfl
              have c7 := (HB2.out.box 5 _ _ rfl).cell 7 _ rfl
              have c8 := (HB2.out.box 5 _ _ rfl).cell 8 _ rfl
              have c9 := (HB2.out.box 5 _ _ rfl).cell 9 _ rfl
              have c10 := (HB2.out.box 5 _ _ rfl).cell 10 _ rfl
              have c11 := (HB2.out.box 5 _ _ rfl).cell 11 _ rfl
              have cf0 := (HB2.out.box 5 _ _ rfl).froz 0 _ rfl
              have cf1 := (HB2.out.box 5 _ _ rfl).froz 1 _ rfl
              have cf2 := (HB2.out.box 5 _ _ rfl).froz 2 _ rfl
              have cf3 := (HB2.out.box 5 _ _ rfl).froz 3 _ rfl
              have cf4 := (HB2.out.box 5 _ _ rfl).froz 4 _ rfl
              have cf5 := (HB2.out.box 5 _ _ rfl).froz 5 _ rfl
              have cf6 := (HB2.out.box 5 _ _ rfl).froz 6 _ rfl
              have cf7 := (HB2.out.box 5 _ _ rfl).froz 7 _ rfl
              have cf8 := (HB2.out.box 5 _ _ rfl).froz 8 _ rfl
              have cf9 := (HB2.out.box 5 _ _ rfl).froz 9 _ rfl
              have cf10 := (HB2.out.box 5 _ _ rfl).froz 10 _ rfl
              have cf11 := (HB2.out.box 5 _ _ rfl).froz 11 _ rfl
              go_wp2_with fail
              obtain ⟨w6, hw6, HB3⟩ := HB2.out.lane 5 _ X rfl 3 (by omega) 9 10 11 rfl rfl rfl (A 0 3)
              have HR3 := ((HR2.out.other H5N.out (.int .i64 (A 0 3).m) (j := 9)).other H5N.out (.bool (A 0 3).f) (j := 10)).other H5N.out (.int .i64 (A 0 3).n) (j := 11)
              rw [hw6] at HR3
              rw [hw6]
              rw [HN.out] at HB3
              clear hw6
              go_roundg (4 - (3 + 1) + 1)
              case measure => omega
              case rel => exact ⟨4, rfl, by omega, by omega, HR3, HB3⟩
            · rw [HT.out] at hc hd
              have CK : Hid (_) := hc
              clear hc
              have cl := (HB.out.box 5 _ _ rfl).lt
              have c0 := (HB.out.box 5 _ _ rfl).cell 0 _ rfl
              have c1 := (HB.out.box 5 _ _ rfl).cell 1 _ rfl
              have c2 := (HB.out.box 5 _ _ rfl).cell 2 _ rfl
              have c3 := (HB.out.box 5 _ _ rfl).cell 3 _ rfl
              have c4 := (HB.out.box 5 _ _ rfl).cell 4 _ rfl
              have c5 := (HB.out.box 5 _ _ rfl).cell 5 _ rfl
              have c6 := (HB.out.box 5 _ _ rfl).cell 6 _ rfl
              have c7 := (HB.out.box 5 _ _ rfl).cell 7 _ rfl
              have c8 := (HB.out.box 5 _ _ rfl).cell 8 _ rfl
              have c9 := (HB.out.box 5 _ _ rfl).cell 9 _ rfl
              have c10 := (HB.out.box 5 _ _ rfl).cell 10 _ rfl
              have c11 := (HB.out.box 5 _ _ rfl).cell 11 _ rfl
              go_wp2_with fail
              refine (CK.out _).mono ?_
              rintro r w5 ⟨rfl, hb⟩
              have HB2 : Hid (_) := HB.out.step hb
              have HR2 : Hid (RB N0 w5 ua n U) := RB.step HR.out hb
              clear hb HB CK HR
              clear cl c0 c1 c2 c3 c4 c5 c6 c7 c8 c9 c10 c11
              have cl := (HB2.out.box 5 _ _ rfl).lt
              have c0 := (HB2.out.box 5 _ _ rfl).cell 0 _ rfl
              have c1 := (HB2.out.box 5 _ _ rfl).cell 1 _ rfl
              have c2 := (HB2.out.box 5 _ _ rfl).cell 2 _ rfl
              have c3 := (HB2.out.box 5 _ _ rfl).cell 3 _ rfl
              have c4 := (HB2.out.box 5 _ _ rfl).cell 4 _ rfl
              have c5 := (HB2.out.box 5 _ _ rfl).cell 5 _ rfl
              have c6 := (HB2.out.box 5 _ _ rfl).cell 6 _ rfl
              have c7 := (HB2.out.box 5 _ _ rfl).cell 7 _ rfl
              have c8 := (HB2.out.box 5 _ _ rfl).cell 8 _ rfl
              have c9 := (HB2.out.box 5 _ _ rfl).cell 9 _ rfl
              have c10 := (HB2.out.box 5 _ _ rfl).cell 10 _ rfl
              have c11 := (HB2.out.box 5 _ _ rfl).cell 11 _ rfl
              have cf0 := (HB2.out.box 5 _ _ rfl).froz 0 _ rfl
              have cf1 := (HB2.out.box 5 _ _ rfl).froz 1 _ rfl
              have cf2 := (HB2.out.box 5 _ _ rfl).froz 2 _ rfl
              have cf3 := (HB2.out.box 5 _ _ rfl).froz 3 _ rfl
              have cf4 := (HB2.out.box 5 _ _ rfl).froz 4 _ rfl
              have cf5 := (HB2.out.box 5 _ _ rfl).froz 5 _ rfl
              have cf6 := (HB2.out.box 5 _ _ rfl).froz 6 _ rfl
              have cf7 := (HB2.out.box 5 _ _ rfl).froz 7 _ rfl
              have cf8 := (HB2.out.box 5 _ _ rfl).froz 8 _ rfl
              have cf9 := (HB2.out.box 5 _ _ rfl).froz 9 _ rfl
              have cf10 := (HB2.out.box 5 _ _ rfl).froz 10 _ rfl
              have cf11 := (HB2.out.box 5 _ _ rfl).froz 11 _ rfl
              go_wp2_with fail
              obtain ⟨w6, hw6, HB3⟩ := HB2.out.lane 5 _ X rfl 3 (by omega) 9 10 11 rfl rfl rfl (A 0 3)
              have HR3 := ((HR2.out.other H5N.out (.int .i64 (A 0 3).m) (j := 9)).other H5N.out (.bool (A 0 3).f) (j := 10)).other H5N.out (.int .i64 (A 0 3).n) (j := 11)
              rw [hw6] at HR3
              rw [hw6]
              rw [HN.out] at HB3
              clear hw6
              go_roundg (4 - (3 + 1) + 1)
              case measure => omega
              case rel => exact ⟨4, rfl, by omega, by omega, HR3, HB3⟩
            · have HU : Hid (upS (3 + 1) s (A 0) = X) := by rw [← HN.out]; exact putS_self (hc.trans HT.out)
              clear hc
              rw [HT.out] at hd
              have cl := (HB.out.box 5 _ _ rfl).lt
              have c0 := (HB.out.box 5 _ _ rfl).cell 0 _ rfl
              have c1 := (HB.out.box 5 _ _ rfl).cell 1 _ rfl
              have c2 := (HB.out.box 5 _ _ rfl).cell 2 _ rfl
              have c3 := (HB.out.box 5 _ _ rfl).cell 3 _ rfl
              have c4 := (HB.out.box 5 _ _ rfl).cell 4 _ rfl
              have c5 := (HB.out.box 5 _ _ rfl).cell 5 _ rfl
              have c6 := (HB.out.box 5 _ _ rfl).cell 6 _ rfl
              have c7 := (HB.out.box 5 _ _ rfl).cell 7 _ rfl
              have c8 := (HB.out.box 5 _ _ rfl).cell 8 _ rfl
              have c9 := (HB.out.box 5 _ _ rfl).cell 9 _ rfl
              have c10 := (HB.out.box 5 _ _ rfl).cell 10 _ rfl
              have c11 := (HB.out.box 5 _ _ rfl).cell 11 _ rfl
              go_wp2_with fail
              have HB5 := HB.out
              rw [← HU.out] at HB5
              go_roundg (4 - (3 + 1) + 1)
              case measure => omega
              case rel => exact ⟨4, rfl, by omega, by omega, HR, HB5⟩
        · obtain rfl : j = 4 := by omega
          have HB1 : Hid (Bxs w [(w.heap.size, [.int .i64 (t 0).m, .bool (t 0).f, .int .i64 (t 0).n, .int .i64 (t 1).m, .bool (t 1).f, .int .i64 (t 1).n, .int .i64 (t 2).m, .bool (t 2).f, .int .i64 (t 2).n, .int .i64 (t 3).m, .bool (t 3).f, .int .i64 (t 3).n]), (w.heap.size + 1, [.bool (o 0), .bool (o 1), .bool (o 2), .bool (o 3)]), (w.heap.size + 1 + 1, [.bool (f 0), .bool (f 1), .bool (f 2), .bool (f 3)]), (w.heap.size + 1 + 1 + 1, [.int .i64 0, .bool false, .int .i64 0, .int .i64 0, .bool false, .int .i64 0, .int .i64 0, .bool false, .int .i64 0, .int .i64 0, .bool false, .int .i64 0]), (w.heap.size + 1 + 1 + 1 + 1, [.int .i64 0, .int .i64 0, .bool false]), (w.heap.size + 1 + 1 + 1 + 1 + 1, [.int .i64 ((A 0) 0).m, .bool ((A 0) 0).f, .int .i64 ((A 0) 0).n, .int .i64 ((A 0) 1).m, .bool ((A 0) 1).f, .int .i64 ((A 0) 1).n, .int .i64 ((A 0) 2).m, .bool ((A 0) 2).f, .int .i64 ((A 0) 2).n, .int .i64 ((A 0) 3).m, .bool ((A 0) 3).f, .int .i64 ((A 0) 3).n])] wr) := by have := HB.out; rw [HZ.out] at this; exact this
          clear HB HZ HT HN HE hlt hg hj
          clear X
          go_wp2_with fail
          go_loopg [70] (n + 1) (fun g s1 wr => ∃ q : Nat, s1 = .int .i64 q ∧ n - q < g ∧ q ≤ n ∧ Hid (RB N0 wr ua n U) ∧ Hid (Bxs w [(w.heap.size, [.int .i64 (t 0).m, .bool (t 0).f, .int .i64 (t 0).n, .int .i64 (t 1).m, .bool (t 1).f, .int .i64 (t 1).n, .int .i64 (t 2).m, .bool (t 2).f, .int .i64 (t 2).n, .int .i64 (t 3).m, .bool (t 3).f, .int .i64 (t 3).n]), (w.heap.size + 1, [.bool (o 0), .bool (o 1), .bool (o 2), .bool (o 3)]), (w.heap.size + 1 + 1, [.bool (f 0), .bool (f 1), .bool (f 2), .bool (f 3)]), (w.heap.size + 1 + 1 + 1, [.int .i64 0, .bool false, .int .i64 0, .int .i64 0, .bool false, .int .i64 0, .int .i64 0, .bool false, .int .i64 0, .int .i64 0, .bool false, .int .i64 0]), (w.heap.size + 1 + 1 + 1 + 1, [.int .i64 0, .int .i64 0, .bool false]), (w.heap.size + 1 + 1 + 1 + 1 + 1, [.int .i64 ((A q) 0).m, .bool ((A q) 0).f, .int .i64 ((A q) 0).n, .int .i64 ((A q) 1).m, .bool ((A q) 1).f, .int .i64 ((A q) 1).n, .int .i64 ((A q) 2).m, .bool ((A q) 2).f, .int .i64 ((A q) 2).n, .int .i64 ((A q) 3).m, .bool ((A q) 3).f, .int .i64 ((A q) 3).n])] wr))
          case atStart => exact ⟨0, rfl, by omega, by omega, HR, HB1⟩
          case round =>
            clear HR
            obtain ⟨q, rfl, hg, hq, HR, HB⟩ := hrel
            clear HB1
            by_cases hlt : q < n
            · have z1 : (q : Int) < (n : Int) := by omega
              obtain ⟨b0, rfl, hNb, hbl, hcell⟩ := HR.out (by omega)
              have x0' := hcell q hlt
              obtain ⟨hU, hP, hK⟩ := HM.out q hlt
              clear hcell hNb
              obtain ⟨X, hX⟩ : ∃ X, X = A q := ⟨_, rfl⟩
              obtain ⟨Y, hY⟩ : ∃ Y, Y = A (q + 1) := ⟨_, rfl⟩
              rw [← hX, ← hY] at hP
              rw [← hX, ← hY] at hK
              have HB1 : Hid (Bxs w [(w.heap.size, [.int .i64 (t 0).m, .bool (t 0).f, .int .i64 (t 0).n, .int .i64 (t 1).m, .bool (t 1).f, .int .i64 (t 1).n, .int .i64 (t 2).m, .bool (t 2).f, .int .i64 (t 2).n, .int .i64 (t 3).m, .bool (t 3).f, .int .i64 (t 3).n]), (w.heap.size + 1, [.bool (o 0), .bool (o 1), .bool (o 2), .bool (o 3)]), (w.heap.size + 1 + 1, [.bool (f 0), .bool (f 1), .bool (f 2), .bool (f 3)]), (w.heap.size + 1 + 1 + 1, [.int .i64 0, .bool false, .int .i64 0, .int .i64 0, .bool false, .int .i64 0, .int .i64 0, .bool false, .int .i64 0, .int .i64 0, .bool false, .int .i64 0]), (w.heap.size + 1 + 1 + 1 + 1, [.int .i64 0, .int .i64 0, .bool false]), (w.heap.size + 1 + 1 + 1 + 1 + 1, [.int .i64 (X 0).m, .bool (X 0).f, .int .i64 (X 0).n, .int .i64 (X 1).m, .bool (X 1).f, .int .i64 (X 1).n, .int .i64 (X 2).m, .bool (X 2).f, .int .i64 (X 2).n, .int .i64 (X 3).m, .bool (X 3).f, .int .i64 (X 3).n])] wr) := by rw [hX]; exact HB.out
              have HYY : Hid (Y = A (q + 1)) := hY
              clear hX hY HB
              obtain ⟨k, hk⟩ : ∃ k, k = U q := ⟨_, rfl⟩
              rw [← hk] at x0' hU hP hK
              clear hk
              obtain rfl | rfl | rfl | rfl := cases4 hU
              · have x0 := x0'.trans (show some (Value.int .i64 ((0 : Nat) : Int)) = some (Value.int .i64 0) from rfl)
                have HP : Hid (_) := hP
                clear x0' hP hU
                have cl := (HB1.out.box 5 _ _ rfl).lt
                have c0 := (HB1.out.box 5 _ _ rfl).cell 0 _ rfl
                have c1 := (HB1.out.box 5 _ _ rfl).cell 1 _ rfl
                have c2 := (HB1.out.box 5 _ _ rfl).cell 2 _ rfl
                have c3 := (HB1.out.box 5 _ _ rfl).cell 3 _ rfl
                have c4 := (HB1.out.box 5 _ _ rfl).cell 4 _ rfl
                have c5 := (HB1.out.box 5 _ _ rfl).cell 5 _ rfl
                have c6 := (HB1.out.box 5 _ _ rfl).cell 6 _ rfl
                have c7 := (HB1.out.box 5 _ _ rfl).cell 7 _ rfl
                have c8 := (HB1.out.box 5 _ _ rfl).cell 8 _ rfl
                have c9 := (HB1.out.box 5 _ _ rfl).cell 9 _ rfl
                have c10 := (HB1.out.box 5 _ _ rfl).cell 10 _ rfl
                have c11 := (HB1.out.box 5 _ _ rfl).cell 11 _ rfl
                by_cases hq2 : q < 2
                · have z2 : ¬ 1 < (q : Int) := by omega
                  rw [show evA q = 1 from if_pos hq2] at hK
                  have CK : Hid (_) := hK
                  clear hK hq2
                  go_wp2_with fail
                  refine (CK.out _).mono ?_
                  rintro r w5 ⟨rfl, hb⟩
                  have HB2 : Hid (_) := HB1.out.step hb
                  have HR2 : Hid (RB N0 w5 _ n U) := RB.step HR.out hb
                  clear hb HB1 CK x0 HR
                  clear cl c0 c1 c2 c3 c4 c5 c6 c7 c8 c9 c10 c11
                  have cl := (HB2.out.box 5 _ _ rfl).lt
                  have c0 := (HB2.out.box 5 _ _ rfl).cell 0 _ rfl
                  have c1 := (HB2.out.box 5 _ _ rfl).cell 1 _ rfl
                  have c2 := (HB2.out.box 5 _ _ rfl).cell 2 _ rfl
                  have c3 := (HB2.out.box 5 _ _ rfl).cell 3 _ rfl
                  have c4 := (HB2.out.box 5 _ _ rfl).cell 4 _ rfl
                  have c5 := (HB2.out.box 5 _ _ rfl).cell 5 _ rfl
                  have c6 := (HB2.out.box 5 _ _ rfl).cell 6 _ rfl
                  have c7 := (HB2.out.box 5 _ _ rfl).cell 7 _ rfl
                  have c8 := (HB2.out.box 5 _ _ rfl).cell 8 _ rfl
                  have c9 := (HB2.out.box 5 _ _ rfl).cell 9 _ rfl
                  have c10 := (HB2.out.box 5 _ _ rfl).cell 10 _ rfl
                  have c11 := (HB2.out.box 5 _ _ rfl).cell 11 _ rfl
                  have cf0 := (HB2.out.box 5 _ _ rfl).froz 0 _ rfl
                  have cf1 := (HB2.out.box 5 _ _ rfl).froz 1 _ rfl
                  have cf2 := (HB2.out.box 5 _ _ rfl).froz 2 _ rfl
                  have cf3 := (HB2.out.box 5 _ _ rfl).froz 3 _ rfl
                  have cf4 := (HB2.out.box 5 _ _ rfl).froz 4 _ rfl
                  have cf5 := (HB2.out.box 5 _ _ rfl).froz 5 _ rfl
                  have cf6 := (HB2.out.box 5 _ _ rfl).froz 6 _ rfl
                  have cf7 := (HB2.out.box 5 _ _ rfl).froz 7 _ rfl
                  have cf8 := (HB2.out.box 5 _ _ rfl).froz 8 _ rfl
                  have cf9 := (HB2.out.box 5 _ _ rfl).froz 9 _ rfl
                  have cf10 := (HB2.out.box 5 _ _ rfl).froz 10 _ rfl
                  have cf11 := (HB2.out.box 5 _ _ rfl).froz 11 _ rfl
                  go_wp2_with fail
                  obtain ⟨w6, hw6, HB3'⟩ := HB2.out.lane 5 _ X rfl 0 (by omega) 0 1 2 rfl rfl rfl (Y 0)
                  have HR3 := ((HR2.out.other H5N.out (.int .i64 (Y 0).m) (j := 0)).other H5N.out (.bool (Y 0).f) (j := 1)).other H5N.out (.int .i64 (Y 0).n) (j := 2)
                  rw [hw6] at HR3
                  rw [hw6]
                  rw [← HP.out, HYY.out] at HB3'
                  clear hw6
                  go_roundg (n - (q + 1) + 1)
                  case measure => omega
                  case rel => exact ⟨q + 1, by go_num, by omega, by omega, HR3, HB3'⟩
                · have z2 : 1 < (q : Int) := by omega
                  rw [show evA q = 2 from if_neg hq2] at hK
                  have CK : Hid (_) := hK
                  clear hK hq2
                  go_wp2_with fail
                  refine (CK.out _).mono ?_
                  rintro r w5 ⟨rfl, hb⟩
                  have HB2 : Hid (_) := HB1.out.step hb
                  have HR2 : Hid (RB N0 w5 _ n U) := RB.step HR.out hb
                  clear hb HB1 CK x0 HR
                  clear cl c0 c1 c2 c3 c4 c5 c6 c7 c8 c9 c10 c11
                  have cl := (HB2.out.box 5 _ _ rfl).lt
                  have c0 := (HB2.out.box 5 _ _ rfl).cell 0 _ rfl
                  have c1 := (HB2.out.box 5 _ _ rfl).cell 1 _ rfl
                  have c2 := (HB2.out.box 5 _ _ rfl).cell 2 _ rfl
                  have c3 := (HB2.out.box 5 _ _ rfl).cell 3 _ rfl
                  have c4 := (HB2.out.box 5 _ _ rfl).cell 4 _ rfl
                  have c5 := (HB2.out.box 5 _ _ rfl).cell 5 _ rfl
                  have c6 := (HB2.out.box 5 _ _ rfl).cell 6 _ rfl
                  have c7 := (HB2.out.box 5 _ _ rfl).cell 7 _ rfl
                  have c8 := (HB2.out.box 5 _ _ rfl).cell 8 _ rfl
                  have c9 := (HB2.out.box 5 _ _ rfl).cell 9 _ rfl
                  have c10 := (HB2.out.box 5 _ _ rfl).cell 10 _ rfl
                  have c11 := (HB2.out.box 5 _ _ rfl).cell 11 _ rfl
                  have cf0 := (HB2.out.box 5 _ _ rfl).froz 0 _ rfl
                  have cf1 := (HB2.out.box 5 _ _ rfl).froz 1 _ rfl
                  have cf2 := (HB2.out.box 5 _ _ rfl).froz 2 _ rfl
                  have cf3 := (HB2.out.box 5 _ _ rfl).froz 3 _ rfl
                  have cf4 := (HB2.out.box 5 _ _ rfl).froz 4 _ rfl
                  have cf5 := (HB2.out.box 5 _ _ rfl).froz 5 _ rfl
                  have cf6 := (HB2.out.box 5 _ _ rfl).froz 6 _ rfl
                  have cf7 := (HB2.out.box 5 _ _ rfl).froz 7 _ rfl
                  have cf8 := (HB2.out.box 5 _ _ rfl).froz 8 _ rfl
                  have cf9 := (HB2.out.box 5 _ _ rfl).froz 9 _ rfl
                  have cf10 := (HB2.out.box 5 _ _ rfl).froz 10 _ rfl
                  have cf11 := (HB2.out.box 5 _ _ rfl).froz 11 _ rfl
                  go_wp2_with fail
                  obtain ⟨w6, hw6, HB3'⟩ := HB2.out.lane 5 _ X rfl 0 (by omega) 0 1 2 rfl rfl rfl (Y 0)
                  have HR3 := ((HR2.out.other H5N.out (.int .i64 (Y 0).m) (j := 0)).other H5N.out (.bool (Y 0).f) (j := 1)).other H5N.out (.int .i64 (Y 0).n) (j := 2)
                  rw [hw6] at HR3
                  rw [hw6]
                  rw [← HP.out, HYY.out] at HB3'
                  clear hw6
                  go_roundg (n - (q + 1) + 1)
                  case measure => omega
                  case rel => exact ⟨q + 1, by go_num, by omega, by omega, HR3, HB3'⟩
              · have x0 := x0'.trans (show some (Value.int .i64 ((1 : Nat) : Int)) = some (Value.int .i64 1) from rfl)
                have HP : Hid (_) := hP
                clear x0' hP hU
                have cl := (HB1.out.box 5 _ _ rfl).lt
                have c0 := (HB1.out.box 5 _ _ rfl).cell 0 _ rfl
                have c1 := (HB1.out.box 5 _ _ rfl).cell 1 _ rfl
                have c2 := (HB1.out.box 5 _ _ rfl).cell 2 _ rfl
                have c3 := (HB1.out.box 5 _ _ rfl).cell 3 _ rfl
                have c4 := (HB1.out.box 5 _ _ rfl).cell 4 _ rfl
                have c5 := (HB1.out.box 5 _ _ rfl).cell 5 _ rfl
                have c6 := (HB1.out.box 5 _ _ rfl).cell 6 _ rfl
                have c7 := (HB1.out.box 5 _ _ rfl).cell 7 _ rfl
                have c8 := (HB1.out.box 5 _ _ rfl).cell 8 _ rfl
                have c9 := (HB1.out.box 5 _ _ rfl).cell 9 _ rfl
                have c10 := (HB1.out.box 5 _ _ rfl).cell 10 _ rfl
                have c11 := (HB1.out.box 5 _ _ rfl).cell 11 _ rfl
                by_cases hq2 : q < 2
                · have z2 : ¬ 1 < (q : Int) := by omega
                  rw [show evA q = 1 from if_pos hq2] at hK
                  have CK : Hid (_) := hK
                  clear hK hq2
                  go_wp2_with fail
                  refine (CK.out _).mono ?_
                  rintro r w5 ⟨rfl, hb⟩
                  have HB2 : Hid (_) := HB1.out.step hb
                  have HR2 : Hid (RB N0 w5 _ n U) := RB.step HR.out hb
                  clear hb HB1 CK x0 HR
                  clear cl c0 c1 c2 c3 c4 c5 c6 c7 c8 c9 c10 c11
                  have cl := (HB2.out.box 5 _ _ rfl).lt
                  have c0 := (HB2.out.box 5 _ _ rfl).cell 0 _ rfl
                  have c1 := (HB2.out.box 5 _ _ rfl).cell 1 _ rfl
                  have c2 := (HB2.out.box 5 _ _ rfl).cell 2 _ rfl
                  have c3 := (HB2.out.box 5 _ _ rfl).cell 3 _ rfl
                  have c4 := (HB2.out.box 5 _ _ rfl).cell 4 _ rfl
                  have c5 := (HB2.out.box 5 _ _ rfl).cell 5 _ rfl
                  have c6 := (HB2.out.box 5 _ _ rfl).cell 6 _ rfl
                  have c7 := (HB2.out.box 5 _ _ rfl).cell 7 _ rfl
                  have c8 := (HB2.out.box 5 _ _ rfl).cell 8 _ rfl
                  have c9 := (HB2.out.box 5 _ _ rfl).cell 9 _ rfl
                  have c10 := (HB2.out.box 5 _ _ rfl).cell 10 _ rfl
                  have c11 := (HB2.out.box 5 _ _ rfl).cell 11 _ rfl
                  have cf0 := (HB2.out.box 5 _ _ rfl).froz 0 _ rfl
                  have cf1 := (HB2.out.box 5 _ _ rfl).froz 1 _ rfl
                  have cf2 := (HB2.out.box 5 _ _ rfl).froz 2 _ rfl
                  have cf3 := (HB2.out.box 5 _ _ rfl).froz 3 _ rfl
                  have cf4 := (HB2.out.box 5 _ _ rfl).froz 4 _ rfl
                  have cf5 := (HB2.out.box 5 _ _ rfl).froz 5 _ rfl
                  have cf6 := (HB2.out.box 5 _ _ rfl).froz 6 _ rfl
                  have cf7 := (HB2.out.box 5 _ _ rfl).froz 7 _ rfl
                  have cf8 := (HB2.out.box 5 _ _ rfl).froz 8 _ rfl
                  have cf9 := (HB2.out.box 5 _ _ rfl).froz 9 _ rfl
                  have cf10 := (HB2.out.box 5 _ _ rfl).froz 10 _ rfl
                  have cf11 := (HB2.out.box 5 _ _ rfl).froz 11 _ rfl
                  go_wp2_with fail
                  obtain ⟨w6, hw6, HB3'⟩ := HB2.out.lane 5 _ X rfl 1 (by omega) 3 4 5 rfl rfl rfl (Y 1)
                  have HR3 := ((HR2.out.other H5N.out (.int .i64 (Y 1).m) (j := 3)).other H5N.out (.bool (Y 1).f) (j := 4)).other H5N.out (.int .i64 (Y 1).n) (j := 5)
                  rw [hw6] at HR3
                  rw [hw6]
                  rw [← HP.out, HYY.out] at HB3'
                  clear hw6
                  go_roundg (n - (q + 1) + 1)
                  case measure => omega
                  case rel => exact ⟨q + 1, by go_num, by omega, by omega, HR3, HB3'⟩
                · have z2 : 1 < (q : Int) := by omega
                  rw [show evA q = 2 from if_neg hq2] at hK
                  have CK : Hid (_) := hK
                  clear hK hq2
                  go_wp2_with fail
                  refine (CK.out _).mono ?_
                  rintro r w5 ⟨rfl, hb⟩
                  have HB2 : Hid (_) := HB1.out.step hb
                  have HR2 : Hid (RB N0 w5 _ n U) := RB.step HR.out hb
                  clear hb HB1 CK x0 HR
                  clear cl c0 c1 c2 c3 c4 c5 c6 c7 c8 c9 c10 c11
                  have cl := (HB2.out.box 5 _ _ rfl).lt
                  have c0 := (HB2.out.box 5 _ _ rfl).cell 0 _ rfl
                  have c1 := (HB2.out.box 5 _ _ rfl).cell 1 _ rfl
                  have c2 := (HB2.out.box 5 _ _ rfl).cell 2 _ rfl
                  have c3 := (HB2.out.box 5 _ _ rfl).cell 3 _ rfl
                  have c4 := (HB2.out.box 5 _ _ rfl).cell 4 _ rfl
                  have c5 := (HB2.out.box 5 _ _ rfl).cell 5 _ rfl
                  have c6 := (HB2.out.box 5 _ _ rfl).cell 6 _ rfl
                  have c7 := (HB2.out.box 5 _ _ rfl).cell 7 _ rfl
                  have c8 := (HB2.out.box 5 _ _ rfl).cell 8 _ rfl
                  have c9 := (HB2.out.box 5 _ _ rfl).cell 9 _ rfl
                  have c10 := (HB2.out.box 5 _ _ rfl).cell 10 _ rfl
                  have c11 := (HB2.out.box 5 _ _ rfl).cell 11 _ rfl
                  have cf0 := (HB2.out.box 5 _ _ rfl).froz 0 _ rfl
                  have cf1 := (HB2.out.box 5 _ _ rfl).froz 1 _ rfl
                  have cf2 := (HB2.out.box 5 _ _ rfl).froz 2 _ rfl
                  have cf3 := (HB2.out.box 5 _ _ rfl).froz 3 _ rfl
                  have cf4 := (HB2.out.box 5 _ _ rfl).froz 4 _ rfl
                  have cf5 := (HB2.out.box 5 _ _ rfl).froz 5 _ rfl
                  have cf6 := (HB2.out.box 5 _ _ rfl).froz 6 _ rfl
                  have cf7 := (HB2.out.box 5 _ _ rfl).froz 7 _ rfl
                  have cf8 := (HB2.out.box 5 _ _ rfl).froz 8 _ rfl
                  have cf9 := (HB2.out.box 5 _ _ rfl).froz 9 _ rfl
                  have cf10 := (HB2.out.box 5 _ _ rfl).froz 10 _ rfl
                  have cf11 := (HB2.out.box 5 _ _ rfl).froz 11 _ rfl
                  go_wp2_with fail
                  obtain ⟨w6, hw6, HB3'⟩ := HB2.out.lane 5 _ X rfl 1 (by omega) 3 4 5 rfl rfl rfl (Y 1)
                  have HR3 := ((HR2.out.other H5N.out (.int .i64 (Y 1).m) (j := 3)).other H5N.out (.bool (Y 1).f) (j := 4)).other H5N.out (.int .i64 (Y 1).n) (j := 5)
                  rw [hw6] at HR3
                  rw [hw6]
                  rw [← HP.out, HYY.out] at HB3'
                  clear hw6
                  go_roundg (n - (q + 1) + 1)
                  case measure => omega
                  case rel => exact ⟨q + 1, by go_num, by omega, by omega, HR3, HB3'⟩
              · have x0 := x0'.trans (show some (Value.int .i64 ((2 : Nat) : Int)) = some (Value.int .i64 2) from rfl)
                have HP : Hid (_) := hP
                clear x0' hP hU
                have cl := (HB1.out.box 5 _ _ rfl).lt
                have c0 := (HB1.out.box 5 _ _ rfl).cell 0 _ rfl
                have c1 := (HB1.out.box 5 _ _ rfl).cell 1 _ rfl
                have c2 := (HB1.out.box 5 _ _ rfl).cell 2 _ rfl
                have c3 := (HB1.out.box 5 _ _ rfl).cell 3 _ rfl
                have c4 := (HB1.out.box 5 _ _ rfl).cell 4 _ rfl
                have c5 := (HB1.out.box 5 _ _ rfl).cell 5 _ rfl
                have c6 := (HB1.out.box 5 _ _ rfl).cell 6 _ rfl
                have c7 := (HB1.out.box 5 _ _ rfl).cell 7 _ rfl
                have c8 := (HB1.out.box 5 _ _ rfl).cell 8 _ rfl
                have c9 := (HB1.out.box 5 _ _ rfl).cell 9 _ rfl
                have c10 := (HB1.out.box 5 _ _ rfl).cell 10 _ rfl
                have c11 := (HB1.out.box 5 _ _ rfl).cell 11 _ rfl
                by_cases hq2 : q < 2
                · have z2 : ¬ 1 < (q : Int) := by omega
                  rw [show evA q = 1 from if_pos hq2] at hK
                  have CK : Hid (_) := hK
                  clear hK hq2
                  go_wp2_with fail
                  refine (CK.out _).mono ?_
                  rintro r w5 ⟨rfl, hb⟩
                  have HB2 : Hid (_) := HB1.out.step hb
                  have HR2 : Hid (RB N0 w5 _ n U) := RB.step HR.out hb
                  clear hb HB1 CK x0 HR
                  clear cl c0 c1 c2 c3 c4 c5 c6 c7 c8 c9 c10 c11
                  have cl := (HB2.out.box 5 _ _ rfl).lt
                  have c0 := (HB2.out.box 5 _ _ rfl).cell 0 _ rfl
                  have c1 := (HB2.out.box 5 _ _ rfl).cell 1 _ rfl
                  have c2 := (HB2.out.box 5 _ _ rfl).cell 2 _ rfl
                  have c3 := (HB2.out.box 5 _ _ rfl).cell 3 _ rfl
                  have c4 := (HB2.out.box 5 _ _ rfl).cell 4 _ rfl
                  have c5 := (HB2.out.box 5 _ _ rfl).cell 5 _ rfl
                  have c6 := (HB2.out.box 5 _ _ rfl).cell 6 _ rfl
                  have c7 := (HB2.out.box 5 _ _ rfl).cell 7 _ rfl
                  have c8 := (HB2.out.box 5 _ _ rfl).cell 8 _ rfl
                  have c9 := (HB2.out.box 5 _ _ rfl).cell 9 _ rfl
                  have c10 := (HB2.out.box 5 _ _ rfl).cell 10 _ rfl
                  have c11 := (HB2.out.box 5 _ _ rfl).cell 11 _ rfl
                  have cf0 := (HB2.out.box 5 _ _ rfl).froz 0 _ rfl
                  have cf1 := (HB2.out.box 5 _ _ rfl).froz 1 _ rfl
                  have cf2 := (HB2.out.box 5 _ _ rfl).froz 2 _ rfl
                  have cf3 := (HB2.out.box 5 _ _ rfl).froz 3 _ rfl
                  have cf4 := (HB2.out.box 5 _ _ rfl).froz 4 _ rfl
                  have cf5 := (HB2.out.box 5 _ _ rfl).froz 5 _ rfl
                  have cf6 := (HB2.out.box 5 _ _ rfl).froz 6 _ rfl
                  have cf7 := (HB2.out.box 5 _ _ rfl).froz 7 _ rfl
                  have cf8 := (HB2.out.box 5 _ _ rfl).froz 8 _ rfl
                  have cf9 := (HB2.out.box 5 _ _ rfl).froz 9 _ rfl
                  have cf10 := (HB2.out.box 5 _ _ rfl).froz 10 _ rfl
                  have cf11 := (HB2.out.box 5 _ _ rfl).froz 11 _ rfl
                  go_wp2_with fail
                  obtain ⟨w6, hw6, HB3'⟩ := HB2.out.lane 5 _ X rfl 2 (by omega) 6 7 8 rfl rfl rfl (Y 2)
                  have HR3 := ((HR2.out.other H5N.out (.int .i64 (Y 2).m) (j := 6)).other H5N.out (.bool (Y 2).f) (j := 7)).other H5N.out (.int .i64 (Y 2).n) (j := 8)
                  rw [hw6] at HR3
                  rw [hw6]
                  rw [← HP.out, HYY.out] at HB3'
                  clear hw6
                  go_roundg (n - (q + 1) + 1)
                  case measure => omega
                  case rel => exact ⟨q + 1, by go_num, by omega, by omega, HR3, HB3'⟩
                · have z2 : 1 < (q : Int) := by omega
                  rw [show evA q = 2 from if_neg hq2] at hK
                  have CK : Hid (_) := hK
                  clear hK hq2
                  go_wp2_with fail
                  refine (CK.out _).mono ?_
                  rintro r w5 ⟨rfl, hb⟩
                  have HB2 : Hid (_) := HB1.out.step hb
                  have HR2 : Hid (RB N0 w5 _ n U) := RB.step HR.out hb
                  clear hb HB1 CK x0 HR
                  clear cl c0 c1 c2 c3 c4 c5 c6 c7 c8 c9 c10 c11
                  have cl := (HB2.out.box 5 _ _ rfl).lt
                  have c0 := (HB2.out.box 5 _ _ rfl).cell 0 _ rfl
                  have c1 := (HB2.out.box 5 _ _ rfl).cell 1 _ rfl
                  have c2 := (HB2.out.box 5 _ _ rfl).cell 2 _ rfl
                  have c3 := (HB2.out.box 5 _ _ rfl).cell 3 _ rfl
                  have c4 := (HB2.out.box 5 _ _ rfl).cell 4 _ rfl
                  have c5 := (HB2.out.box 5 _ _ rfl).cell 5 _ rfl
                  have c6 := (HB2.out.box 5 _ _ rfl).cell 6 _ rfl
                  have c7 := (HB2.out.box 5 _ _ rfl).cell 7 _ rfl
                  have c8 := (HB2.out.box 5 _ _ rfl).cell 8 _ rfl
                  have c9 := (HB2.out.box 5 _ _ rfl).cell 9 _ rfl
                  have c10 := (HB2.out.box 5 _ _ rfl).cell 10 _ rfl
                  have c11 := (HB2.out.box 5 _ _ rfl).cell 11 _ rfl
                  have cf0 := (HB2.out.box 5 _ _ rfl).froz 0 _ rfl
                  have cf1 := (HB2.out.box 5 _ _ rfl).froz 1 _ rfl
                  have cf2 := (HB2.out.box 5 _ _ rfl).froz 2 _ rfl
                  have cf3 := (HB2.out.box 5 _ _ rfl).froz 3 _ rfl
                  have cf4 := (HB2.out.box 5 _ _ rfl).froz 4 _ rfl
                  have cf5 := (HB2.out.box 5 _ _ rfl).froz 5 _ rfl
                  have cf6 := (HB2.out.box 5 _ _ rfl).froz 6 _ rfl
                  have cf7 := (HB2.out.box 5 _ _ rfl).froz 7 _ rfl
                  have cf8 := (HB2.out.box 5 _ _ rfl).froz 8 _ rfl
                  have cf9 := (HB2.out.box 5 _ _ rfl).froz 9 _ rfl
                  have cf10 := (HB2.out.box 5 _ _ rfl).froz 10 _ rfl
                  have cf11 := (HB2.out.box 5 _ _ rfl).froz 11 _ rfl
                  go_wp2_with fail
                  obtain ⟨w6, hw6, HB3'⟩ := HB2.out.lane 5 _ X rfl 2 (by omega) 6 7 8 rfl rfl rfl (Y 2)
                  have HR3 := ((HR2.out.other H5N.out (.int .i64 (Y 2).m) (j := 6)).other H5N.out (.bool (Y 2).f) (j := 7)).other H5N.out (.int .i64 (Y 2).n) (j := 8)
                  rw [hw6] at HR3
                  rw [hw6]
                  rw [← HP.out, HYY.out] at HB3'
                  clear hw6
                  go_roundg (n - (q + 1) + 1)
                  case measure => omega
                  case rel => exact ⟨q + 1, by go_num, by omega, by omega, HR3, HB3'⟩
              · have x0 := x0'.trans (show some (Value.int .i64 ((3 : Nat) : Int)) = some (Value.int .i64 3) from rfl)
                have HP : Hid (_) := hP
                clear x0' hP hU
                have cl := (HB1.out.box 5 _ _ rfl).lt
                have c0 := (HB1.out.box 5 _ _ rfl).cell 0 _ rfl
                have c1 := (HB1.out.box 5 _ _ rfl).cell 1 _ rfl
                have c2 := (HB1.out.box 5 _ _ rfl).cell 2 _ rfl
                have c3 := (HB1.out.box 5 _ _ rfl).cell 3 _ rfl
                have c4 := (HB1.out.box 5 _ _ rfl).cell 4 _ rfl
                have c5 := (HB1.out.box 5 _ _ rfl).cell 5 _ rfl
                have c6 := (HB1.out.box 5 _ _ rfl).cell 6 _ rfl
                have c7 := (HB1.out.box 5 _ _ rfl).cell 7 _ rfl
                have c8 := (HB1.out.box 5 _ _ rfl).cell 8 _ rfl
                have c9 := (HB1.out.box 5 _ _ rfl).cell 9 _ rfl
                have c10 := (HB1.out.box 5 _ _ rfl).cell 10 _ rfl
                have c11 := (HB1.out.box 5 _ _ rfl).cell 11 _ rfl
                by_cases hq2 : q < 2
                · have z2 : ¬ 1 < (q : Int) := by omega
                  rw [show evA q = 1 from if_pos hq2] at hK
                  have CK : Hid (_) := hK
                  clear hK hq2
                  go_wp2_with fail
                  refine (CK.out _).mono ?_
                  rintro r w5 ⟨rfl, hb⟩
                  have HB2 : Hid (_) := HB1.out.step hb
                  have HR2 : Hid (RB N0 w5 _ n U) := RB.step HR.out hb
                  clear hb HB1 CK x0 HR
                  clear cl c0 c1 c2 c3 c4 c5 c6 c7 c8 c9 c10 c11
                  have cl := (HB2.out.box 5 _ _ rfl).lt
                  have c0 := (HB2.out.box 5 _ _ rfl).cell 0 _ rfl
                  have c1 := (HB2.out.box 5 _ _ rfl).cell 1 _ rfl
                  have c2 := (HB2.out.box 5 _ _ rfl).cell 2 _ rfl
                  have c3 := (HB2.out.box 5 _ _ rfl).cell 3 _ rfl
                  have c4 := (HB2.out.box 5 _ _ rfl).cell 4 _ rfl
                  have c5 := (HB2.out.box 5 _ _ rfl).cell 5 _ rfl
                  have c6 := (HB2.out.box 5 _ _ rfl).cell 6 _ rfl
                  have c7 := (HB2.out.box 5 _ _ rfl).cell 7 _ rfl
                  have c8 := (HB2.out.box 5 _ _ rfl).cell 8 _ rfl
                  have c9 := (HB2.out.box 5 _ _ rfl).cell 9 _ rfl
                  have c10 := (HB2.out.box 5 _ _ rfl).cell 10 _ rfl
                  have c11 := (HB2.out.box 5 _ _ rfl).cell 11 _ rfl
                  have cf0 := (HB2.out.box 5 _ _ rfl).froz 0 _ rfl
                  have cf1 := (HB2.out.box 5 _ _ rfl).froz 1 _ rfl
                  have cf2 := (HB2.out.box 5 _ _ rfl).froz 2 _ rfl
                  have cf3 := (HB2.out.box 5 _ _ rfl).froz 3 _ rfl
                  have cf4 := (HB2.out.box 5 _ _ rfl).froz 4 _ rfl
                  have cf5 := (HB2.out.box 5 _ _ rfl).froz 5 _ rfl
                  have cf6 := (HB2.out.box 5 _ _ rfl).froz 6 _ rfl
                  have cf7 := (HB2.out.box 5 _ _ rfl).froz 7 _ rfl
                  have cf8 := (HB2.out.box 5 _ _ rfl).froz 8 _ rfl
                  have cf9 := (HB2.out.box 5 _ _ rfl).froz 9 _ rfl
                  have cf10 := (HB2.out.box 5 _ _ rfl).froz 10 _ rfl
                  have cf11 := (HB2.out.box 5 _ _ rfl).froz 11 _ rfl
                  go_wp2_with fail
                  obtain ⟨w6, hw6, HB3'⟩ := HB2.out.lane 5 _ X rfl 3 (by omega) 9 10 11 rfl rfl rfl (Y 3)
                  have HR3 := ((HR2.out.other H5N.out (.int .i64 (Y 3).m) (j := 9)).other H5N.out (.bool (Y 3).f) (j := 10)).other H5N.out (.int .i64 (Y 3).n) (j := 11)
                  rw [hw6] at HR3
                  rw [hw6]
                  rw [← HP.out, HYY.out] at HB3'
                  clear hw6
                  go_roundg (n - (q + 1) + 1)
                  case measure => omega
                  case rel => exact ⟨q + 1, by go_num, by omega, by omega, HR3, HB3'⟩
                · have z2 : 1 < (q : Int) := by omega
                  rw [show evA q = 2 from if_neg hq2] at hK
                  have CK : Hid (_) := hK
                  clear hK hq2
                  go_wp2_with fail
                  refine (CK.out _).mono ?_
                  rintro r w5 ⟨rfl, hb⟩
                  have HB2 : Hid (_) := HB1.out.step hb
                  have HR2 : Hid (RB N0 w5 _ n U) := RB.step HR.out hb
                  clear hb HB1 CK x0 HR
                  clear cl c0 c1 c2 c3 c4 c5 c6 c7 c8 c9 c10 c11
                  have cl := (HB2.out.box 5 _ _ rfl).lt
                  have c0 := (HB2.out.box 5 _ _ rfl).cell 0 _ rfl
                  have c1 := (HB2.out.box 5 _ _ rfl).cell 1 _ rfl
                  have c2 := (HB2.out.box 5 _ _ rfl).cell 2 _ rfl
                  have c3 := (HB2.out.box 5 _ _ rfl).cell 3 _ rfl
                  have c4 := (HB2.out.box 5 _ _ rfl).cell 4 _ rfl
                  have c5 := (HB2.out.box 5 _ _ rfl).cell 5 _ rfl
                  have c6 := (HB2.out.box 5 _ _ rfl).cell 6 _ rfl
                  have c7 := (HB2.out.box 5 _ _ rfl).cell 7 _ rfl
                  have c8 := (HB2.out.box 5 _ _ rfl).cell 8 _ rfl
                  have c9 := (HB2.out.box 5 _ _ rfl).cell 9 _ rfl
                  have c10 := (HB2.out.box 5 _ _ rfl).cell 10 _ rfl
                  have c11 := (HB2.out.box 5 _ _ rfl).cell 11 _ rfl
                  have cf0 := (HB2.out.box 5 _ _ rfl).froz 0 _ rfl
                  have cf1 := (HB2.out.box 5 _ _ rfl).froz 1 _ rfl
                  have cf2 := (HB2.out.box 5 _ _ rfl).froz 2 _ rfl
                  have cf3 := (HB2.out.box 5 _ _ rfl).froz 3 _ rfl
                  have cf4 := (HB2.out.box 5 _ _ rfl).froz 4 _ rfl
                  have cf5 := (HB2.out.box 5 _ _ rfl).froz 5 _ rfl
                  have cf6 := (HB2.out.box 5 _ _ rfl).froz 6 _ rfl
                  have cf7 := (HB2.out.box 5 _ _ rfl).froz 7 _ rfl
                  have cf8 := (HB2.out.box 5 _ _ rfl).froz 8 _ rfl
                  have cf9 := (HB2.out.box 5 _ _ rfl).froz 9 _ rfl
                  have cf10 := (HB2.out.box 5 _ _ rfl).froz 10 _ rfl
                  have cf11 := (HB2.out.box 5 _ _ rfl).froz 11 _ rfl
                  go_wp2_with fail
                  obtain ⟨w6, hw6, HB3'⟩ := HB2.out.lane 5 _ X rfl 3 (by omega) 9 10 11 rfl rfl rfl (Y 3)
                  have HR3 := ((HR2.out.other H5N.out (.int .i64 (Y 3).m) (j := 9)).other H5N.out (.bool (Y 3).f) (j := 10)).other H5N.out (.int .i64 (Y 3).n) (j := 11)
                  rw [hw6] at HR3
                  rw [hw6]
                  rw [← HP.out, HYY.out] at HB3'
                  clear hw6
                  go_roundg (n - (q + 1) + 1)
                  case measure => omega
                  case rel => exact ⟨q + 1, by go_num, by omega, by omega, HR3, HB3'⟩
            · have z1 : ¬ (q : Int) < (n : Int) := by omega
              obtain rfl : q = n := by omega
              clear HM HR hlt hg hq hn4
              go_upto_region 28 with (fail)
              rw [← hl]
              obtain ⟨M, W1, hW1, hM1, B1', Z1⟩ := HB.out.new #[.int .i64 q, .int .i64 0, .bool l] 30
              rw [hW1, hM1]
              have HB1 : Hid (Bxs w [(w.heap.size, [.int .i64 (t 0).m, .bool (t 0).f, .int .i64 (t 0).n, .int .i64 (t 1).m, .bool (t 1).f, .int .i64 (t 1).n, .int .i64 (t 2).m, .bool (t 2).f, .int .i64 (t 2).n, .int .i64 (t 3).m, .bool (t 3).f, .int .i64 (t 3).n]), (w.heap.size + 1, [.bool (o 0), .bool (o 1), .bool (o 2), .bool (o 3)]), (w.heap.size + 1 + 1, [.bool (f 0), .bool (f 1), .bool (f 2), .bool (f 3)]), (w.heap.size + 1 + 1 + 1, [.int .i64 0, .bool false, .int .i64 0, .int .i64 0, .bool false, .int .i64 0, .int .i64 0, .bool false, .int .i64 0, .int .i64 0, .bool false, .int .i64 0]), (w.heap.size + 1 + 1 + 1 + 1, [.int .i64 0, .int .i64 0, .bool false]), (w.heap.size + 1 + 1 + 1 + 1 + 1, [.int .i64 ((upS 0 (A q) y) 0).m, .bool ((upS 0 (A q) y) 0).f, .int .i64 ((upS 0 (A q) y) 0).n, .int .i64 ((upS 0 (A q) y) 1).m, .bool ((upS 0 (A q) y) 1).f, .int .i64 ((upS 0 (A q) y) 1).n, .int .i64 ((upS 0 (A q) y) 2).m, .bool ((upS 0 (A q) y) 2).f, .int .i64 ((upS 0 (A q) y) 2).n, .int .i64 ((upS 0 (A q) y) 3).m, .bool ((upS 0 (A q) y) 3).f, .int .i64 ((upS 0 (A q) y) 3).n]), (M, [.int .i64 q, .int .i64 0, .bool l])] W1) := B1'
              clear hW1 hM1 B1' HB Z1 z1 hl
              obtain ⟨D, hD⟩ : ∃ D, D = A q := ⟨_, rfl⟩
              rw [← hD] at HY HB1
              clear hD
              go_wp2_with fail
              go_loopg [91] (5) (fun g s1 wr => ∃ j k : Nat, s1 = .int .i64 j ∧ 4 - j < g ∧ j ≤ 4 ∧ k ≤ j ∧ Hid (acN y j = k) ∧ Hid (Bxs w [(w.heap.size, [.int .i64 (t 0).m, .bool (t 0).f, .int .i64 (t 0).n, .int .i64 (t 1).m, .bool (t 1).f, .int .i64 (t 1).n, .int .i64 (t 2).m, .bool (t 2).f, .int .i64 (t 2).n, .int .i64 (t 3).m, .bool (t 3).f, .int .i64 (t 3).n]), (w.heap.size + 1, [.bool (o 0), .bool (o 1), .bool (o 2), .bool (o 3)]), (w.heap.size + 1 + 1, [.bool (f 0), .bool (f 1), .bool (f 2), .bool (f 3)]), (w.heap.size + 1 + 1 + 1, [.int .i64 0, .bool false, .int .i64 0, .int .i64 0, .bool false, .int .i64 0, .int .i64 0, .bool false, .int .i64 0, .int .i64 0, .bool false, .int .i64 0]), (w.heap.size + 1 + 1 + 1 + 1, [.int .i64 0, .int .i64 0, .bool false]), (w.heap.size + 1 + 1 + 1 + 1 + 1, [.int .i64 ((upS j D y) 0).m, .bool ((upS j D y) 0).f, .int .i64 ((upS j D y) 0).n, .int .i64 ((upS j D y) 1).m, .bool ((upS j D y) 1).f, .int .i64 ((upS j D y) 1).n, .int .i64 ((upS j D y) 2).m, .bool ((upS j D y) 2).f, .int .i64 ((upS j D y) 2).n, .int .i64 ((upS j D y) 3).m, .bool ((upS j D y) 3).f, .int .i64 ((upS j D y) 3).n]), (M, [.int .i64 q, .int .i64 k, .bool l])] wr))
              case atStart => exact ⟨0, 0, rfl, by omega, by omega, by omega, rfl, HB1⟩
              case round =>
                obtain ⟨j, k, rfl, hg, hj, hk, HK, HB'⟩ := hrel
                clear HB1
                obtain ⟨X, hX⟩ : ∃ X, X = upS j D y := ⟨_, rfl⟩
                have HB : Hid (Bxs w [(w.heap.size, [.int .i64 (t 0).m, .bool (t 0).f, .int .i64 (t 0).n, .int .i64 (t 1).m, .bool (t 1).f, .int .i64 (t 1).n, .int .i64 (t 2).m, .bool (t 2).f, .int .i64 (t 2).n, .int .i64 (t 3).m, .bool (t 3).f, .int .i64 (t 3).n]), (w.heap.size + 1, [.bool (o 0), .bool (o 1), .bool (o 2), .bool (o 3)]), (w.heap.size + 1 + 1, [.bool (f 0), .bool (f 1), .bool (f 2), .bool (f 3)]), (w.heap.size + 1 + 1 + 1, [.int .i64 0, .bool false, .int .i64 0, .int .i64 0, .bool false, .int .i64 0, .int .i64 0, .bool false, .int .i64 0, .int .i64 0, .bool false, .int .i64 0]), (w.heap.size + 1 + 1 + 1 + 1, [.int .i64 0, .int .i64 0, .bool false]), (w.heap.size + 1 + 1 + 1 + 1 + 1, [.int .i64 (X 0).m, .bool (X 0).f, .int .i64 (X 0).n, .int .i64 (X 1).m, .bool (X 1).f, .int .i64 (X 1).n, .int .i64 (X 2).m, .bool (X 2).f, .int .i64 (X 2).n, .int .i64 (X 3).m, .bool (X 3).f, .int .i64 (X 3).n]), (M, [.int .i64 q, .int .i64 k, .bool l])] wr) := by rw [hX]; exact HB'.out
                have HT : Hid (D j = X j) := by rw [hX]; exact (upS_at j D y).symm
                have HN : Hid (putS X j (y j) = upS (j + 1) D y) := by rw [hX]; exact putS_up D y j
                have HZ : Hid (X = upS j D y) := hX
                clear hX HB'
                by_cases hlt : j < 4
                · obtain rfl | rfl | rfl | rfl := cases4 hlt
                  · obtain ⟨w6, hw6, HB3'⟩ := HB.out.laneFor 5 _ X rfl 0 (by omega) 2 rfl 0
                    obtain ⟨B, hB⟩ : ∃ B, B = putS X 0 ⟨(X 0).m, (X 0).f, 0⟩ := ⟨_, rfl⟩
                    rw [← hB] at HB3'
                    have HB3 : Hid (Bxs w [(w.heap.size, [.int .i64 (t 0).m, .bool (t 0).f, .int .i64 (t 0).n, .int .i64 (t 1).m, .bool (t 1).f, .int .i64 (t 1).n, .int .i64 (t 2).m, .bool (t 2).f, .int .i64 (t 2).n, .int .i64 (t 3).m, .bool (t 3).f, .int .i64 (t 3).n]), (w.heap.size + 1, [.bool (o 0), .bool (o 1), .bool (o 2), .bool (o 3)]), (w.heap.size + 1 + 1, [.bool (f 0), .bool (f 1), .bool (f 2), .bool (f 3)]), (w.heap.size + 1 + 1 + 1, [.int .i64 0, .bool false, .int .i64 0, .int .i64 0, .bool false, .int .i64 0, .int .i64 0, .bool false, .int .i64 0, .int .i64 0, .bool false, .int .i64 0]), (w.heap.size + 1 + 1 + 1 + 1, [.int .i64 0, .int .i64 0, .bool false]), (w.heap.size + 1 + 1 + 1 + 1 + 1, [.int .i64 (B 0).m, .bool (B 0).f, .int .i64 (B 0).n, .int .i64 (B 1).m, .bool (B 1).f, .int .i64 (B 1).n, .int .i64 (B 2).m, .bool (B 2).f, .int .i64 (B 2).n, .int .i64 (B 3).m, .bool (B 3).f, .int .i64 (B 3).n]), (M, [.int .i64 q, .int .i64 k, .bool l])] w6) := HB3'
                    have HBj : Hid (B 0 = ⟨(X 0).m, (X 0).f, 0⟩) := by rw [hB]; exact putS_at _ _ _
                    have HQ : Hid (putS B 0 (y 0) = upS (0 + 1) D y) := by rw [hB, putS_putS]; exact HN.out
                    have hm : (B 0).m = (D 0).m := by rw [HBj.out, HT.out]
                    have hfl : (B 0).f = (D 0).f := by rw [HBj.out, HT.out]
                    clear HB3' hB HN
                    have cl := (HB.out.box 5 _ _ rfl).lt
                    have c0 := (HB.out.box 5 _ _ rfl).cell 0 _ rfl
                    have c1 := (HB.out.box 5 _ _ rfl).cell 1 _ rfl
                    have c2 := (HB.out.box 5 _ _ rfl).cell 2 _ rfl
                    have c3 := (HB.out.box 5 _ _ rfl).cell 3 _ rfl
                    have c4 := (HB.out.box 5 _ _ rfl).cell 4 _ rfl
                    have c5 := (HB.out.box 5 _ _ rfl).cell 5 _ rfl
                    have c6 := (HB.out.box 5 _ _ rfl).cell 6 _ rfl
                    have c7 := (HB.out.box 5 _ _ rfl).cell 7 _ rfl
                    have c8 := (HB.out.box 5 _ _ rfl).cell 8 _ rfl
                    have c9 := (HB.out.box 5 _ _ rfl).cell 9 _ rfl
                    have c10 := (HB.out.box 5 _ _ rfl).cell 10 _ rfl
                    have c11 := (HB.out.box 5 _ _ rfl).cell 11 _ rfl
                    have cf0 := (HB.out.box 5 _ _ rfl).froz 0 _ rfl
                    have cf1 := (HB.out.box 5 _ _ rfl).froz 1 _ rfl
                    have cf2 := (HB.out.box 5 _ _ rfl).froz 2 _ rfl
                    have cf3 := (HB.out.box 5 _ _ rfl).froz 3 _ rfl
                    have cf4 := (HB.out.box 5 _ _ rfl).froz 4 _ rfl
                    have cf5 := (HB.out.box 5 _ _ rfl).froz 5 _ rfl
                    have cf6 := (HB.out.box 5 _ _ rfl).froz 6 _ rfl
                    have cf7 := (HB.out.box 5 _ _ rfl).froz 7 _ rfl
                    have cf8 := (HB.out.box 5 _ _ rfl).froz 8 _ rfl
                    have cf9 := (HB.out.box 5 _ _ rfl).froz 9 _ rfl
                    have cf10 := (HB.out.box 5 _ _ rfl).froz 10 _ rfl
                    have cf11 := (HB.out.box 5 _ _ rfl).froz 11 _ rfl
                    go_upto_region 32 with (fail)
                    try rw [hw6]
                    clear hw6 HB
                    clear cl c0 c1 c2 c3 c4 c5 c6 c7 c8 c9 c10 c11
                    clear cf0 cf1 cf2 cf3 cf4 cf5 cf6 cf7 cf8 cf9 cf10 cf11
                    rcases HY.out 0 (by omega) with ⟨he, hc⟩ | ⟨he, hc⟩
                    · rw [← hm] at he
                      rw [← hm, ← hfl] at hc
                      have HU : Hid (_) := hc
                      obtain ⟨n1, n2⟩ := HI.out 0 (by omega)
                      obtain ⟨T, hT⟩ : ∃ T, T = tkI (t 0).n := ⟨_, rfl⟩
                      have hmin : ∀ (ts : Array TypeId) (ty : TypeId) (W : World), (Builtin.min_ ts ty #[.int .i64 10000, .int .i64 ((t 0).n + 1)]).run Try.prog W = .ok (.int .i64 T) W := fun ts ty W => by
                        rw [hT, run_min_int2 W ts ty .i64 .i64 10000 ((t 0).n + 1)]
                        unfold tkI
                        split <;> split <;> first | rfl | (congr 2; omega) | omega
                      rw [← hT] at HU
                      clear hc hT hm hfl
                      have cl := (HB3.out.box 5 _ _ rfl).lt
                      have c0 := (HB3.out.box 5 _ _ rfl).cell 0 _ rfl
                      have c1 := (HB3.out.box 5 _ _ rfl).cell 1 _ rfl
                      have c2 := (HB3.out.box 5 _ _ rfl).cell 2 _ rfl
                      have c3 := (HB3.out.box 5 _ _ rfl).cell 3 _ rfl
                      have c4 := (HB3.out.box 5 _ _ rfl).cell 4 _ rfl
                      have c5 := (HB3.out.box 5 _ _ rfl).cell 5 _ rfl
                      have c6 := (HB3.out.box 5 _ _ rfl).cell 6 _ rfl
                      have c7 := (HB3.out.box 5 _ _ rfl).cell 7 _ rfl
                      have c8 := (HB3.out.box 5 _ _ rfl).cell 8 _ rfl
                      have c9 := (HB3.out.box 5 _ _ rfl).cell 9 _ rfl
                      have c10 := (HB3.out.box 5 _ _ rfl).cell 10 _ rfl
                      have c11 := (HB3.out.box 5 _ _ rfl).cell 11 _ rfl
                      have cf0 := (HB3.out.box 5 _ _ rfl).froz 0 _ rfl
                      have cf1 := (HB3.out.box 5 _ _ rfl).froz 1 _ rfl
                      have cf2 := (HB3.out.box 5 _ _ rfl).froz 2 _ rfl
                      have cf3 := (HB3.out.box 5 _ _ rfl).froz 3 _ rfl
                      have cf4 := (HB3.out.box 5 _ _ rfl).froz 4 _ rfl
                      have cf5 := (HB3.out.box 5 _ _ rfl).froz 5 _ rfl
                      have cf6 := (HB3.out.box 5 _ _ rfl).froz 6 _ rfl
                      have cf7 := (HB3.out.box 5 _ _ rfl).froz 7 _ rfl
                      have cf8 := (HB3.out.box 5 _ _ rfl).froz 8 _ rfl
                      have cf9 := (HB3.out.box 5 _ _ rfl).froz 9 _ rfl
                      have cf10 := (HB3.out.box 5 _ _ rfl).froz 10 _ rfl
                      have cf11 := (HB3.out.box 5 _ _ rfl).froz 11 _ rfl
                      have el := (HB3.out.box 0 _ _ rfl).lt
                      have e0 := (HB3.out.box 0 _ _ rfl).cell 0 _ rfl
                      have e1 := (HB3.out.box 0 _ _ rfl).cell 1 _ rfl
                      have e2 := (HB3.out.box 0 _ _ rfl).cell 2 _ rfl
                      have e3 := (HB3.out.box 0 _ _ rfl).cell 3 _ rfl
                      have e4 := (HB3.out.box 0 _ _ rfl).cell 4 _ rfl
                      have e5 := (HB3.out.box 0 _ _ rfl).cell 5 _ rfl
                      have e6 := (HB3.out.box 0 _ _ rfl).cell 6 _ rfl
                      have e7 := (HB3.out.box 0 _ _ rfl).cell 7 _ rfl
                      have e8 := (HB3.out.box 0 _ _ rfl).cell 8 _ rfl
                      have e9 := (HB3.out.box 0 _ _ rfl).cell 9 _ rfl
                      have e10 := (HB3.out.box 0 _ _ rfl).cell 10 _ rfl
                      have e11 := (HB3.out.box 0 _ _ rfl).cell 11 _ rfl
                      go_big_quiet (fail)
                      go_upto_region 34 with (fail)
                      obtain ⟨w7, hw7, HB4⟩ := (HB3.out.step (W' := w6.drewN nq) ⟨rfl, rfl, rfl, Nat.le_refl _, fun _ _ => rfl⟩).laneFor 5 _ B rfl 0 (by omega) 2 rfl T
                      rw [hw7]
                      clear hw7
                      rw [← HU.out, HQ.out] at HB4
                      have HB5' : Bxs w [(w.heap.size, [.int .i64 (t 0).m, .bool (t 0).f, .int .i64 (t 0).n, .int .i64 (t 1).m, .bool (t 1).f, .int .i64 (t 1).n, .int .i64 (t 2).m, .bool (t 2).f, .int .i64 (t 2).n, .int .i64 (t 3).m, .bool (t 3).f, .int .i64 (t 3).n]), (w.heap.size + 1, [.bool (o 0), .bool (o 1), .bool (o 2), .bool (o 3)]), (w.heap.size + 1 + 1, [.bool (f 0), .bool (f 1), .bool (f 2), .bool (f 3)]), (w.heap.size + 1 + 1 + 1, [.int .i64 0, .bool false, .int .i64 0, .int .i64 0, .bool false, .int .i64 0, .int .i64 0, .bool false, .int .i64 0, .int .i64 0, .bool false, .int .i64 0]), (w.heap.size + 1 + 1 + 1 + 1, [.int .i64 0, .int .i64 0, .bool false]), (w.heap.size + 1 + 1 + 1 + 1 + 1, [.int .i64 ((upS (0 + 1) D y) 0).m, .bool ((upS (0 + 1) D y) 0).f, .int .i64 ((upS (0 + 1) D y) 0).n, .int .i64 ((upS (0 + 1) D y) 1).m, .bool ((upS (0 + 1) D y) 1).f, .int .i64 ((upS (0 + 1) D y) 1).n, .int .i64 ((upS (0 + 1) D y) 2).m, .bool ((upS (0 + 1) D y) 2).f, .int .i64 ((upS (0 + 1) D y) 2).n, .int .i64 ((upS (0 + 1) D y) 3).m, .bool ((upS (0 + 1) D y) 3).f, .int .i64 ((upS (0 + 1) D y) 3).n]), (M, [.int .i64 q, .int .i64 k, .bool l])] w7 := HB4
                      clear HB4 he hmin n1 n2 HB3
                      clear cl c0 c1 c2 c3 c4 c5 c6 c7 c8 c9 c10 c11
                      clear cf0 cf1 cf2 cf3 cf4 cf5 cf6 cf7 cf8 cf9 cf10 cf11
                      clear el e0 e1 e2 e3 e4 e5 e6 e7 e8 e9 e10 e11
                      obtain ⟨F, hF⟩ : ∃ F, F = upS (0 + 1) D y := ⟨_, rfl⟩
                      have hFj : F 0 = y 0 := by rw [hF]; exact if_pos (Nat.lt_succ_self _)
                      rw [← hF] at HB5'
                      have HB5 : Hid (Bxs w [(w.heap.size, [.int .i64 (t 0).m, .bool (t 0).f, .int .i64 (t 0).n, .int .i64 (t 1).m, .bool (t 1).f, .int .i64 (t 1).n, .int .i64 (t 2).m, .bool (t 2).f, .int .i64 (t 2).n, .int .i64 (t 3).m, .bool (t 3).f, .int .i64 (t 3).n]), (w.heap.size + 1, [.bool (o 0), .bool (o 1), .bool (o 2), .bool (o 3)]), (w.heap.size + 1 + 1, [.bool (f 0), .bool (f 1), .bool (f 2), .bool (f 3)]), (w.heap.size + 1 + 1 + 1, [.int .i64 0, .bool false, .int .i64 0, .int .i64 0, .bool false, .int .i64 0, .int .i64 0, .bool false, .int .i64 0, .int .i64 0, .bool false, .int .i64 0]), (w.heap.size + 1 + 1 + 1 + 1, [.int .i64 0, .int .i64 0, .bool false]), (w.heap.size + 1 + 1 + 1 + 1 + 1, [.int .i64 (F 0).m, .bool (F 0).f, .int .i64 (F 0).n, .int .i64 (F 1).m, .bool (F 1).f, .int .i64 (F 1).n, .int .i64 (F 2).m, .bool (F 2).f, .int .i64 (F 2).n, .int .i64 (F 3).m, .bool (F 3).f, .int .i64 (F 3).n]), (M, [.int .i64 q, .int .i64 k, .bool l])] _) := HB5'
                      have HF : Hid (F = upS (0 + 1) D y) := hF
                      clear HB5' hF
                      by_cases hm : (F 0).m = 1
                      · have HKN : Hid (acN y (0 + 1) = k + 1) := (acN_yes (by rw [← hFj]; exact hm)).trans (congrArg (· + 1) HK.out)
                        have hm1 : ((F 0).m == 1) = true := by simpa using hm
                        clear hm hFj
                        have cl := (HB5.out.box 5 _ _ rfl).lt
                        have c0 := (HB5.out.box 5 _ _ rfl).cell 0 _ rfl
                        have c1 := (HB5.out.box 5 _ _ rfl).cell 1 _ rfl
                        have c2 := (HB5.out.box 5 _ _ rfl).cell 2 _ rfl
                        have c3 := (HB5.out.box 5 _ _ rfl).cell 3 _ rfl
                        have c4 := (HB5.out.box 5 _ _ rfl).cell 4 _ rfl
                        have c5 := (HB5.out.box 5 _ _ rfl).cell 5 _ rfl
                        have c6 := (HB5.out.box 5 _ _ rfl).cell 6 _ rfl
                        have c7 := (HB5.out.box 5 _ _ rfl).cell 7 _ rfl
                        have c8 := (HB5.out.box 5 _ _ rfl).cell 8 _ rfl
                        have c9 := (HB5.out.box 5 _ _ rfl).cell 9 _ rfl
                        have c10 := (HB5.out.box 5 _ _ rfl).cell 10 _ rfl
                        have c11 := (HB5.out.box 5 _ _ rfl).cell 11 _ rfl
                        have dl := (HB5.out.box 6 _ _ rfl).lt
                        have d0 := (HB5.out.box 6 _ _ rfl).cell 0 _ rfl
                        have d1 := (HB5.out.box 6 _ _ rfl).cell 1 _ rfl
                        have d2 := (HB5.out.box 6 _ _ rfl).cell 2 _ rfl
                        have df0 := (HB5.out.box 6 _ _ rfl).froz 0 _ rfl
                        have df1 := (HB5.out.box 6 _ _ rfl).froz 1 _ rfl
                        have df2 := (HB5.out.box 6 _ _ rfl).froz 2 _ rfl
                        go_wp2_with fail
                        obtain ⟨w9, hw9, HB6⟩ := HB5.out.put1 6 M 1 _ (.int .i64 ((k : Int) + 1)) rfl (by simp)
                        rw [hw9]
                        have HB7 : Hid (Bxs w [(w.heap.size, [.int .i64 (t 0).m, .bool (t 0).f, .int .i64 (t 0).n, .int .i64 (t 1).m, .bool (t 1).f, .int .i64 (t 1).n, .int .i64 (t 2).m, .bool (t 2).f, .int .i64 (t 2).n, .int .i64 (t 3).m, .bool (t 3).f, .int .i64 (t 3).n]), (w.heap.size + 1, [.bool (o 0), .bool (o 1), .bool (o 2), .bool (o 3)]), (w.heap.size + 1 + 1, [.bool (f 0), .bool (f 1), .bool (f 2), .bool (f 3)]), (w.heap.size + 1 + 1 + 1, [.int .i64 0, .bool false, .int .i64 0, .int .i64 0, .bool false, .int .i64 0, .int .i64 0, .bool false, .int .i64 0, .int .i64 0, .bool false, .int .i64 0]), (w.heap.size + 1 + 1 + 1 + 1, [.int .i64 0, .int .i64 0, .bool false]), (w.heap.size + 1 + 1 + 1 + 1 + 1, [.int .i64 (F 0).m, .bool (F 0).f, .int .i64 (F 0).n, .int .i64 (F 1).m, .bool (F 1).f, .int .i64 (F 1).n, .int .i64 (F 2).m, .bool (F 2).f, .int .i64 (F 2).n, .int .i64 (F 3).m, .bool (F 3).f, .int .i64 (F 3).n]), (M, [.int .i64 q, .int .i64 ((k + 1 : Nat) : Int), .bool l])] w9) := HB6
                        clear hw9 HB6
                        rw [HF.out] at HB7
                        go_roundg (4 - (0 + 1) + 1)
                        case measure => omega
                        case rel => exact ⟨1, k + 1, rfl, by omega, by omega, by omega, HKN.out, HB7.out⟩
                      · have HKN : Hid (acN y (0 + 1) = k) := (acN_no (by rw [← hFj]; exact hm)).trans HK.out
                        have hm1 : ((F 0).m == 1) = false := by simpa using hm
                        clear hm hFj
                        have cl := (HB5.out.box 5 _ _ rfl).lt
                        have c0 := (HB5.out.box 5 _ _ rfl).cell 0 _ rfl
                        have c1 := (HB5.out.box 5 _ _ rfl).cell 1 _ rfl
                        have c2 := (HB5.out.box 5 _ _ rfl).cell 2 _ rfl
                        have c3 := (HB5.out.box 5 _ _ rfl).cell 3 _ rfl
                        have c4 := (HB5.out.box 5 _ _ rfl).cell 4 _ rfl
                        have c5 := (HB5.out.box 5 _ _ rfl).cell 5 _ rfl
                        have c6 := (HB5.out.box 5 _ _ rfl).cell 6 _ rfl
                        have c7 := (HB5.out.box 5 _ _ rfl).cell 7 _ rfl
                        have c8 := (HB5.out.box 5 _ _ rfl).cell 8 _ rfl
                        have c9 := (HB5.out.box 5 _ _ rfl).cell 9 _ rfl
                        have c10 := (HB5.out.box 5 _ _ rfl).cell 10 _ rfl
                        have c11 := (HB5.out.box 5 _ _ rfl).cell 11 _ rfl
                        go_wp2_with fail
                        have HB7 := HB5.out
                        rw [HF.out] at HB7
                        go_roundg (4 - (0 + 1) + 1)
                        case measure => omega
                        case rel => exact ⟨1, k, rfl, by omega, by omega, by omega, HKN.out, HB7⟩
                    · have HU : Hid (upS (0 + 1) D y = B) := by rw [← HQ.out]; exact putS_self (hc.trans (by rw [HBj.out, HT.out]))
                      rw [← hm] at he
                      clear hc hm hfl
                      have cl := (HB3.out.box 5 _ _ rfl).lt
                      have c0 := (HB3.out.box 5 _ _ rfl).cell 0 _ rfl
                      have c1 := (HB3.out.box 5 _ _ rfl).cell 1 _ rfl
                      have c2 := (HB3.out.box 5 _ _ rfl).cell 2 _ rfl
                      have c3 := (HB3.out.box 5 _ _ rfl).cell 3 _ rfl
                      have c4 := (HB3.out.box 5 _ _ rfl).cell 4 _ rfl
                      have c5 := (HB3.out.box 5 _ _ rfl).cell 5 _ rfl
                      have c6 := (HB3.out.box 5 _ _ rfl).cell 6 _ rfl
                      have c7 := (HB3.out.box 5 _ _ rfl).cell 7 _ rfl
                      have c8 := (HB3.out.box 5 _ _ rfl).cell 8 _ rfl
                      have c9 := (HB3.out.box 5 _ _ rfl).cell 9 _ rfl
                      have c10 := (HB3.out.box 5 _ _ rfl).cell 10 _ rfl
                      have c11 := (HB3.out.box 5 _ _ rfl).cell 11 _ rfl
                      have el := (HB3.out.box 0 _ _ rfl).lt
                      have e0 := (HB3.out.box 0 _ _ rfl).cell 0 _ rfl
                      have e1 := (HB3.out.box 0 _ _ rfl).cell 1 _ rfl
                      have e2 := (HB3.out.box 0 _ _ rfl).cell 2 _ rfl
                      have e3 := (HB3.out.box 0 _ _ rfl).cell 3 _ rfl
                      have e4 := (HB3.out.box 0 _ _ rfl).cell 4 _ rfl
                      have e5 := (HB3.out.box 0 _ _ rfl).cell 5 _ rfl
                      have e6 := (HB3.out.box 0 _ _ rfl).cell 6 _ rfl
                      have e7 := (HB3.out.box 0 _ _ rfl).cell 7 _ rfl
                      have e8 := (HB3.out.box 0 _ _ rfl).cell 8 _ rfl
                      have e9 := (HB3.out.box 0 _ _ rfl).cell 9 _ rfl
                      have e10 := (HB3.out.box 0 _ _ rfl).cell 10 _ rfl
                      have e11 := (HB3.out.box 0 _ _ rfl).cell 11 _ rfl
                      go_big_quiet (fail)
                      go_upto_region 34 with (fail)
                      have HB5' := HB3.out.step (W' := w6.drewN nq) ⟨rfl, rfl, rfl, Nat.le_refl _, fun _ _ => rfl⟩
                      rw [← HU.out] at HB5'
                      clear he HB3
                      clear cl c0 c1 c2 c3 c4 c5 c6 c7 c8 c9 c10 c11
                      clear el e0 e1 e2 e3 e4 e5 e6 e7 e8 e9 e10 e11
                      obtain ⟨F, hF⟩ : ∃ F, F = upS (0 + 1) D y := ⟨_, rfl⟩
                      have hFj : F 0 = y 0 := by rw [hF]; exact if_pos (Nat.lt_succ_self _)
                      rw [← hF] at HB5'
                      have HB5 : Hid (Bxs w [(w.heap.size, [.int .i64 (t 0).m, .bool (t 0).f, .int .i64 (t 0).n, .int .i64 (t 1).m, .bool (t 1).f, .int .i64 (t 1).n, .int .i64 (t 2).m, .bool (t 2).f, .int .i64 (t 2).n, .int .i64 (t 3).m, .bool (t 3).f, .int .i64 (t 3).n]), (w.heap.size + 1, [.bool (o 0), .bool (o 1), .bool (o 2), .bool (o 3)]), (w.heap.size + 1 + 1, [.bool (f 0), .bool (f 1), .bool (f 2), .bool (f 3)]), (w.heap.size + 1 + 1 + 1, [.int .i64 0, .bool false, .int .i64 0, .int .i64 0, .bool false, .int .i64 0, .int .i64 0, .bool false, .int .i64 0, .int .i64 0, .bool false, .int .i64 0]), (w.heap.size + 1 + 1 + 1 + 1, [.int .i64 0, .int .i64 0, .bool false]), (w.heap.size + 1 + 1 + 1 + 1 + 1, [.int .i64 (F 0).m, .bool (F 0).f, .int .i64 (F 0).n, .int .i64 (F 1).m, .bool (F 1).f, .int .i64 (F 1).n, .int .i64 (F 2).m, .bool (F 2).f, .int .i64 (F 2).n, .int .i64 (F 3).m, .bool (F 3).f, .int .i64 (F 3).n]), (M, [.int .i64 q, .int .i64 k, .bool l])] _) := HB5'
                      have HF : Hid (F = upS (0 + 1) D y) := hF
                      clear HB5' hF
                      by_cases hm : (F 0).m = 1
                      · have HKN : Hid (acN y (0 + 1) = k + 1) := (acN_yes (by rw [← hFj]; exact hm)).trans (congrArg (· + 1) HK.out)
                        have hm1 : ((F 0).m == 1) = true := by simpa using hm
                        clear hm hFj
                        have cl := (HB5.out.box 5 _ _ rfl).lt
                        have c0 := (HB5.out.box 5 _ _ rfl).cell 0 _ rfl
                        have c1 := (HB5.out.box 5 _ _ rfl).cell 1 _ rfl
                        have c2 := (HB5.out.box 5 _ _ rfl).cell 2 _ rfl
                        have c3 := (HB5.out.box 5 _ _ rfl).cell 3 _ rfl
                        have c4 := (HB5.out.box 5 _ _ rfl).cell 4 _ rfl
                        have c5 := (HB5.out.box 5 _ _ rfl).cell 5 _ rfl
                        have c6 := (HB5.out.box 5 _ _ rfl).cell 6 _ rfl
                        have c7 := (HB5.out.box 5 _ _ rfl).cell 7 _ rfl
                        have c8 := (HB5.out.box 5 _ _ rfl).cell 8 _ rfl
                        have c9 := (HB5.out.box 5 _ _ rfl).cell 9 _ rfl
                        have c10 := (HB5.out.box 5 _ _ rfl).cell 10 _ rfl
                        have c11 := (HB5.out.box 5 _ _ rfl).cell 11 _ rfl
                        have dl := (HB5.out.box 6 _ _ rfl).lt
                        have d0 := (HB5.out.box 6 _ _ rfl).cell 0 _ rfl
                        have d1 := (HB5.out.box 6 _ _ rfl).cell 1 _ rfl
                        have d2 := (HB5.out.box 6 _ _ rfl).cell 2 _ rfl
                        have df0 := (HB5.out.box 6 _ _ rfl).froz 0 _ rfl
                        have df1 := (HB5.out.box 6 _ _ rfl).froz 1 _ rfl
                        have df2 := (HB5.out.box 6 _ _ rfl).froz 2 _ rfl
                        go_wp2_with fail
                        obtain ⟨w9, hw9, HB6⟩ := HB5.out.put1 6 M 1 _ (.int .i64 ((k : Int) + 1)) rfl (by simp)
                        rw [hw9]
                        have HB7 : Hid (Bxs w [(w.heap.size, [.int .i64 (t 0).m, .bool (t 0).f, .int .i64 (t 0).n, .int .i64 (t 1).m, .bool (t 1).f, .int .i64 (t 1).n, .int .i64 (t 2).m, .bool (t 2).f, .int .i64 (t 2).n, .int .i64 (t 3).m, .bool (t 3).f, .int .i64 (t 3).n]), (w.heap.size + 1, [.bool (o 0), .bool (o 1), .bool (o 2), .bool (o 3)]), (w.heap.size + 1 + 1, [.bool (f 0), .bool (f 1), .bool (f 2), .bool (f 3)]), (w.heap.size + 1 + 1 + 1, [.int .i64 0, .bool false, .int .i64 0, .int .i64 0, .bool false, .int .i64 0, .int .i64 0, .bool false, .int .i64 0, .int .i64 0, .bool false, .int .i64 0]), (w.heap.size + 1 + 1 + 1 + 1, [.int .i64 0, .int .i64 0, .bool false]), (w.heap.size + 1 + 1 + 1 + 1 + 1, [.int .i64 (F 0).m, .bool (F 0).f, .int .i64 (F 0).n, .int .i64 (F 1).m, .bool (F 1).f, .int .i64 (F 1).n, .int .i64 (F 2).m, .bool (F 2).f, .int .i64 (F 2).n, .int .i64 (F 3).m, .bool (F 3).f, .int .i64 (F 3).n]), (M, [.int .i64 q, .int .i64 ((k + 1 : Nat) : Int), .bool l])] w9) := HB6
                        clear hw9 HB6
                        rw [HF.out] at HB7
                        go_roundg (4 - (0 + 1) + 1)
                        case measure => omega
                        case rel => exact ⟨1, k + 1, rfl, by omega, by omega, by omega, HKN.out, HB7.out⟩
                      · have HKN : Hid (acN y (0 + 1) = k) := (acN_no (by rw [← hFj]; exact hm)).trans HK.out
                        have hm1 : ((F 0).m == 1) = false := by simpa using hm
                        clear hm hFj
                        have cl := (HB5.out.box 5 _ _ rfl).lt
                        have c0 := (HB5.out.box 5 _ _ rfl).cell 0 _ rfl
                        have c1 := (HB5.out.box 5 _ _ rfl).cell 1 _ rfl
                        have c2 := (HB5.out.box 5 _ _ rfl).cell 2 _ rfl
                        have c3 := (HB5.out.box 5 _ _ rfl).cell 3 _ rfl
                        have c4 := (HB5.out.box 5 _ _ rfl).cell 4 _ rfl
                        have c5 := (HB5.out.box 5 _ _ rfl).cell 5 _ rfl
                        have c6 := (HB5.out.box 5 _ _ rfl).cell 6 _ rfl
                        have c7 := (HB5.out.box 5 _ _ rfl).cell 7 _ rfl
                        have c8 := (HB5.out.box 5 _ _ rfl).cell 8 _ rfl
                        have c9 := (HB5.out.box 5 _ _ rfl).cell 9 _ rfl
                        have c10 := (HB5.out.box 5 _ _ rfl).cell 10 _ rfl
                        have c11 := (HB5.out.box 5 _ _ rfl).cell 11 _ rfl
                        go_wp2_with fail
                        have HB7 := HB5.out
                        rw [HF.out] at HB7
                        go_roundg (4 - (0 + 1) + 1)
                        case measure => omega
                        case rel => exact ⟨1, k, rfl, by omega, by omega, by omega, HKN.out, HB7⟩
                  · obtain ⟨w6, hw6, HB3'⟩ := HB.out.laneFor 5 _ X rfl 1 (by omega) 5 rfl 0
                    obtain ⟨B, hB⟩ : ∃ B, B = putS X 1 ⟨(X 1).m, (X 1).f, 0⟩ := ⟨_, rfl⟩
                    rw [← hB] at HB3'
                    have HB3 : Hid (Bxs w [(w.heap.size, [.int .i64 (t 0).m, .bool (t 0).f, .int .i64 (t 0).n, .int .i64 (t 1).m, .bool (t 1).f, .int .i64 (t 1).n, .int .i64 (t 2).m, .bool (t 2).f, .int .i64 (t 2).n, .int .i64 (t 3).m, .bool (t 3).f, .int .i64 (t 3).n]), (w.heap.size + 1, [.bool (o 0), .bool (o 1), .bool (o 2), .bool (o 3)]), (w.heap.size + 1 + 1, [.bool (f 0), .bool (f 1), .bool (f 2), .bool (f 3)]), (w.heap.size + 1 + 1 + 1, [.int .i64 0, .bool false, .int .i64 0, .int .i64 0, .bool false, .int .i64 0, .int .i64 0, .bool false, .int .i64 0, .int .i64 0, .bool false, .int .i64 0]), (w.heap.size + 1 + 1 + 1 + 1, [.int .i64 0, .int .i64 0, .bool false]), (w.heap.size + 1 + 1 + 1 + 1 + 1, [.int .i64 (B 0).m, .bool (B 0).f, .int .i64 (B 0).n, .int .i64 (B 1).m, .bool (B 1).f, .int .i64 (B 1).n, .int .i64 (B 2).m, .bool (B 2).f, .int .i64 (B 2).n, .int .i64 (B 3).m, .bool (B 3).f, .int .i64 (B 3).n]), (M, [.int .i64 q, .int .i64 k, .bool l])] w6) := HB3'
                    have HBj : Hid (B 1 = ⟨(X 1).m, (X 1).f, 0⟩) := by rw [hB]; exact putS_at _ _ _
                    have HQ : Hid (putS B 1 (y 1) = upS (1 + 1) D y) := by rw [hB, putS_putS]; exact HN.out
                    have hm : (B 1).m = (D 1).m := by rw [HBj.out, HT.out]
                    have hfl : (B 1).f = (D 1).f := by rw [HBj.out, HT.out]
                    clear HB3' hB HN
                    have cl := (HB.out.box 5 _ _ rfl).lt
                    have c0 := (HB.out.box 5 _ _ rfl).cell 0 _ rfl
                    have c1 := (HB.out.box 5 _ _ rfl).cell 1 _ rfl
                    have c2 := (HB.out.box 5 _ _ rfl).cell 2 _ rfl
                    have c3 := (HB.out.box 5 _ _ rfl).cell 3 _ rfl
                    have c4 := (HB.out.box 5 _ _ rfl).cell 4 _ rfl
                    have c5 := (HB.out.box 5 _ _ rfl).cell 5 _ rfl
                    have c6 := (HB.out.box 5 _ _ rfl).cell 6 _ rfl
                    have c7 := (HB.out.box 5 _ _ rfl).cell 7 _ rfl
                    have c8 := (HB.out.box 5 _ _ rfl).cell 8 _ rfl
                    have c9 := (HB.out.box 5 _ _ rfl).cell 9 _ rfl
                    have c10 := (HB.out.box 5 _ _ rfl).cell 10 _ rfl
                    have c11 := (HB.out.box 5 _ _ rfl).cell 11 _ rfl
                    have cf0 := (HB.out.box 5 _ _ rfl).froz 0 _ rfl
                    have cf1 := (HB.out.box 5 _ _ rfl).froz 1 _ rfl
                    have cf2 := (HB.out.box 5 _ _ rfl).froz 2 _ rfl
                    have cf3 := (HB.out.box 5 _ _ rfl).froz 3 _ rfl
                    have cf4 := (HB.out.box 5 _ _ rfl).froz 4 _ rfl
                    have cf5 := (HB.out.box 5 _ _ rfl).froz 5 _ rfl
                    have cf6 := (HB.out.box 5 _ _ rfl).froz 6 _ rfl
                    have cf7 := (HB.out.box 5 _ _ rfl).froz 7 _ rfl
                    have cf8 := (HB.out.box 5 _ _ rfl).froz 8 _ rfl
                    have cf9 := (HB.out.box 5 _ _ rfl).froz 9 _ rfl
                    have cf10 := (HB.out.box 5 _ _ rfl).froz 10 _ rfl
                    have cf11 := (HB.out.box 5 _ _ rfl).froz 11 _ rfl
                    go_upto_region 32 with (fail)
                    try rw [hw6]
                    clear hw6 HB
                    clear cl c0 c1 c2 c3 c4 c5 c6 c7 c8 c9 c10 c11
                    clear cf0 cf1 cf2 cf3 cf4 cf5 cf6 cf7 cf8 cf9 cf10 cf11
                    rcases HY.out 1 (by omega) with ⟨he, hc⟩ | ⟨he, hc⟩
                    · rw [← hm] at he
                      rw [← hm, ← hfl] at hc
                      have HU : Hid (_) := hc
                      obtain ⟨n1, n2⟩ := HI.out 1 (by omega)
                      obtain ⟨T, hT⟩ : ∃ T, T = tkI (t 1).n := ⟨_, rfl⟩
                      have hmin : ∀ (ts : Array TypeId) (ty : TypeId) (W : World), (Builtin.min_ ts ty #[.int .i64 10000, .int .i64 ((t 1).n + 1)]).run Try.prog W = .ok (.int .i64 T) W := fun ts ty W => by
                        rw [hT, run_min_int2 W ts ty .i64 .i64 10000 ((t 1).n + 1)]
                        unfold tkI
                        split <;> split <;> first | rfl | (congr 2; omega) | omega
                      rw [← hT] at HU
                      clear hc hT hm hfl
                      have cl := (HB3.out.box 5 _ _ rfl).lt
                      have c0 := (HB3.out.box 5 _ _ rfl).cell 0 _ rfl
                      have c1 := (HB3.out.box 5 _ _ rfl).cell 1 _ rfl
                      have c2 := (HB3.out.box 5 _ _ rfl).cell 2 _ rfl
                      have c3 := (HB3.out.box 5 _ _ rfl).cell 3 _ rfl
                      have c4 := (HB3.out.box 5 _ _ rfl).cell 4 _ rfl
                      have c5 := (HB3.out.box 5 _ _ rfl).cell 5 _ rfl
                      have c6 := (HB3.out.box 5 _ _ rfl).cell 6 _ rfl
                      have c7 := (HB3.out.box 5 _ _ rfl).cell 7 _ rfl
                      have c8 := (HB3.out.box 5 _ _ rfl).cell 8 _ rfl
                      have c9 := (HB3.out.box 5 _ _ rfl).cell 9 _ rfl
                      have c10 := (HB3.out.box 5 _ _ rfl).cell 10 _ rfl
                      have c11 := (HB3.out.box 5 _ _ rfl).cell 11 _ rfl
                      have cf0 := (HB3.out.box 5 _ _ rfl).froz 0 _ rfl
                      have cf1 := (HB3.out.box 5 _ _ rfl).froz 1 _ rfl
                      have cf2 := (HB3.out.box 5 _ _ rfl).froz 2 _ rfl
                      have cf3 := (HB3.out.box 5 _ _ rfl).froz 3 _ rfl
                      have cf4 := (HB3.out.box 5 _ _ rfl).froz 4 _ rfl
                      have cf5 := (HB3.out.box 5 _ _ rfl).froz 5 _ rfl
                      have cf6 := (HB3.out.box 5 _ _ rfl).froz 6 _ rfl
                      have cf7 := (HB3.out.box 5 _ _ rfl).froz 7 _ rfl
                      have cf8 := (HB3.out.box 5 _ _ rfl).froz 8 _ rfl
                      have cf9 := (HB3.out.box 5 _ _ rfl).froz 9 _ rfl
                      have cf10 := (HB3.out.box 5 _ _ rfl).froz 10 _ rfl
                      have cf11 := (HB3.out.box 5 _ _ rfl).froz 11 _ rfl
                      have el := (HB3.out.box 0 _ _ rfl).lt
                      have e0 := (HB3.out.box 0 _ _ rfl).cell 0 _ rfl
                      have e1 := (HB3.out.box 0 _ _ rfl).cell 1 _ rfl
                      have e2 := (HB3.out.box 0 _ _ rfl).cell 2 _ rfl
                      have e3 := (HB3.out.box 0 _ _ rfl).cell 3 _ rfl
                      have e4 := (HB3.out.box 0 _ _ rfl).cell 4 _ rfl
                      have e5 := (HB3.out.box 0 _ _ rfl).cell 5 _ rfl
                      have e6 := (HB3.out.box 0 _ _ rfl).cell 6 _ rfl
                      have e7 := (HB3.out.box 0 _ _ rfl).cell 7 _ rfl
                      have e8 := (HB3.out.box 0 _ _ rfl).cell 8 _ rfl
                      have e9 := (HB3.out.box 0 _ _ rfl).cell 9 _ rfl
                      have e10 := (HB3.out.box 0 _ _ rfl).cell 10 _ rfl
                      have e11 := (HB3.out.box 0 _ _ rfl).cell 11 _ rfl
                      go_big_quiet (fail)
                      go_upto_region 34 with (fail)
                      obtain ⟨w7, hw7, HB4⟩ := (HB3.out.step (W' := w6.drewN nq) ⟨rfl, rfl, rfl, Nat.le_refl _, fun _ _ => rfl⟩).laneFor 5 _ B rfl 1 (by omega) 5 rfl T
                      rw [hw7]
                      clear hw7
                      rw [← HU.out, HQ.out] at HB4
                      have HB5' : Bxs w [(w.heap.size, [.int .i64 (t 0).m, .bool (t 0).f, .int .i64 (t 0).n, .int .i64 (t 1).m, .bool (t 1).f, .int .i64 (t 1).n, .int .i64 (t 2).m, .bool (t 2).f, .int .i64 (t 2).n, .int .i64 (t 3).m, .bool (t 3).f, .int .i64 (t 3).n]), (w.heap.size + 1, [.bool (o 0), .bool (o 1), .bool (o 2), .bool (o 3)]), (w.heap.size + 1 + 1, [.bool (f 0), .bool (f 1), .bool (f 2), .bool (f 3)]), (w.heap.size + 1 + 1 + 1, [.int .i64 0, .bool false, .int .i64 0, .int .i64 0, .bool false, .int .i64 0, .int .i64 0, .bool false, .int .i64 0, .int .i64 0, .bool false, .int .i64 0]), (w.heap.size + 1 + 1 + 1 + 1, [.int .i64 0, .int .i64 0, .bool false]), (w.heap.size + 1 + 1 + 1 + 1 + 1, [.int .i64 ((upS (1 + 1) D y) 0).m, .bool ((upS (1 + 1) D y) 0).f, .int .i64 ((upS (1 + 1) D y) 0).n, .int .i64 ((upS (1 + 1) D y) 1).m, .bool ((upS (1 + 1) D y) 1).f, .int .i64 ((upS (1 + 1) D y) 1).n, .int .i64 ((upS (1 + 1) D y) 2).m, .bool ((upS (1 + 1) D y) 2).f, .int .i64 ((upS (1 + 1) D y) 2).n, .int .i64 ((upS (1 + 1) D y) 3).m, .bool ((upS (1 + 1) D y) 3).f, .int .i64 ((upS (1 + 1) D y) 3).n]), (M, [.int .i64 q, .int .i64 k, .bool l])] w7 := HB4
                      clear HB4 he hmin n1 n2 HB3
                      clear cl c0 c1 c2 c3 c4 c5 c6 c7 c8 c9 c10 c11
                      clear cf0 cf1 cf2 cf3 cf4 cf5 cf6 cf7 cf8 cf9 cf10 cf11
                      clear el e0 e1 e2 e3 e4 e5 e6 e7 e8 e9 e10 e11
                      obtain ⟨F, hF⟩ : ∃ F, F = upS (1 + 1) D y := ⟨_, rfl⟩
                      have hFj : F 1 = y 1 := by rw [hF]; exact if_pos (Nat.lt_succ_self _)
                      rw [← hF] at HB5'
                      have HB5 : Hid (Bxs w [(w.heap.size, [.int .i64 (t 0).m, .bool (t 0).f, .int .i64 (t 0).n, .int .i64 (t 1).m, .bool (t 1).f, .int .i64 (t 1).n, .int .i64 (t 2).m, .bool (t 2).f, .int .i64 (t 2).n, .int .i64 (t 3).m, .bool (t 3).f, .int .i64 (t 3).n]), (w.heap.size + 1, [.bool (o 0), .bool (o 1), .bool (o 2), .bool (o 3)]), (w.heap.size + 1 + 1, [.bool (f 0), .bool (f 1), .bool (f 2), .bool (f 3)]), (w.heap.size + 1 + 1 + 1, [.int .i64 0, .bool false, .int .i64 0, .int .i64 0, .bool false, .int .i64 0, .int .i64 0, .bool false, .int .i64 0, .int .i64 0, .bool false, .int .i64 0]), (w.heap.size + 1 + 1 + 1 + 1, [.int .i64 0, .int .i64 0, .bool false]), (w.heap.size + 1 + 1 + 1 + 1 + 1, [.int .i64 (F 0).m, .bool (F 0).f, .int .i64 (F 0).n, .int .i64 (F 1).m, .bool (F 1).f, .int .i64 (F 1).n, .int .i64 (F 2).m, .bool (F 2).f, .int .i64 (F 2).n, .int .i64 (F 3).m, .bool (F 3).f, .int .i64 (F 3).n]), (M, [.int .i64 q, .int .i64 k, .bool l])] _) := HB5'
                      have HF : Hid (F = upS (1 + 1) D y) := hF
                      clear HB5' hF
                      by_cases hm : (F 1).m = 1
                      · have HKN : Hid (acN y (1 + 1) = k + 1) := (acN_yes (by rw [← hFj]; exact hm)).trans (congrArg (· + 1) HK.out)
                        have hm1 : ((F 1).m == 1) = true := by simpa using hm
                        clear hm hFj
                        have cl := (HB5.out.box 5 _ _ rfl).lt
                        have c0 := (HB5.out.box 5 _ _ rfl).cell 0 _ rfl
                        have c1 := (HB5.out.box 5 _ _ rfl).cell 1 _ rfl
                        have c2 := (HB5.out.box 5 _ _ rfl).cell 2 _ rfl
                        have c3 := (HB5.out.box 5 _ _ rfl).cell 3 _ rfl
                        have c4 := (HB5.out.box 5 _ _ rfl).cell 4 _ rfl
                        have c5 := (HB5.out.box 5 _ _ rfl).cell 5 _ rfl
                        have c6 := (HB5.out.box 5 _ _ rfl).cell 6 _ rfl
                        have c7 := (HB5.out.box 5 _ _ rfl).cell 7 _ rfl
                        have c8 := (HB5.out.box 5 _ _ rfl).cell 8 _ rfl
                        have c9 := (HB5.out.box 5 _ _ rfl).cell 9 _ rfl
                        have c10 := (HB5.out.box 5 _ _ rfl).cell 10 _ rfl
                        have c11 := (HB5.out.box 5 _ _ rfl).cell 11 _ rfl
                        have dl := (HB5.out.box 6 _ _ rfl).lt
                        have d0 := (HB5.out.box 6 _ _ rfl).cell 0 _ rfl
                        have d1 := (HB5.out.box 6 _ _ rfl).cell 1 _ rfl
                        have d2 := (HB5.out.box 6 _ _ rfl).cell 2 _ rfl
                        have df0 := (HB5.out.box 6 _ _ rfl).froz 0 _ rfl
                        have df1 := (HB5.out.box 6 _ _ rfl).froz 1 _ rfl
                        have df2 := (HB5.out.box 6 _ _ rfl).froz 2 _ rfl
                        go_wp2_with fail
                        obtain ⟨w9, hw9, HB6⟩ := HB5.out.put1 6 M 1 _ (.int .i64 ((k : Int) + 1)) rfl (by simp)
                        rw [hw9]
                        have HB7 : Hid (Bxs w [(w.heap.size, [.int .i64 (t 0).m, .bool (t 0).f, .int .i64 (t 0).n, .int .i64 (t 1).m, .bool (t 1).f, .int .i64 (t 1).n, .int .i64 (t 2).m, .bool (t 2).f, .int .i64 (t 2).n, .int .i64 (t 3).m, .bool (t 3).f, .int .i64 (t 3).n]), (w.heap.size + 1, [.bool (o 0), .bool (o 1), .bool (o 2), .bool (o 3)]), (w.heap.size + 1 + 1, [.bool (f 0), .bool (f 1), .bool (f 2), .bool (f 3)]), (w.heap.size + 1 + 1 + 1, [.int .i64 0, .bool false, .int .i64 0, .int .i64 0, .bool false, .int .i64 0, .int .i64 0, .bool false, .int .i64 0, .int .i64 0, .bool false, .int .i64 0]), (w.heap.size + 1 + 1 + 1 + 1, [.int .i64 0, .int .i64 0, .bool false]), (w.heap.size + 1 + 1 + 1 + 1 + 1, [.int .i64 (F 0).m, .bool (F 0).f, .int .i64 (F 0).n, .int .i64 (F 1).m, .bool (F 1).f, .int .i64 (F 1).n, .int .i64 (F 2).m, .bool (F 2).f, .int .i64 (F 2).n, .int .i64 (F 3).m, .bool (F 3).f, .int .i64 (F 3).n]), (M, [.int .i64 q, .int .i64 ((k + 1 : Nat) : Int), .bool l])] w9) := HB6
                        clear hw9 HB6
                        rw [HF.out] at HB7
                        go_roundg (4 - (1 + 1) + 1)
                        case measure => omega
                        case rel => exact ⟨2, k + 1, rfl, by omega, by omega, by omega, HKN.out, HB7.out⟩
                      · have HKN : Hid (acN y (1 + 1) = k) := (acN_no (by rw [← hFj]; exact hm)).trans HK.out
                        have hm1 : ((F 1).m == 1) = false := by simpa using hm
                        clear hm hFj
                        have cl := (HB5.out.box 5 _ _ rfl).lt
                        have c0 := (HB5.out.box 5 _ _ rfl).cell 0 _ rfl
                        have c1 := (HB5.out.box 5 _ _ rfl).cell 1 _ rfl
                        have c2 := (HB5.out.box 5 _ _ rfl).cell 2 _ rfl
                        have c3 := (HB5.out.box 5 _ _ rfl).cell 3 _ rfl
                        have c4 := (HB5.out.box 5 _ _ rfl).cell 4 _ rfl
                        have c5 := (HB5.out.box 5 _ _ rfl).cell 5 _ rfl
                        have c6 := (HB5.out.box 5 _ _ rfl).cell 6 _ rfl
                        have c7 := (HB5.out.box 5 _ _ rfl).cell 7 _ rfl
                        have c8 := (HB5.out.box 5 _ _ rfl).cell 8 _ rfl
                        have c9 := (HB5.out.box 5 _ _ rfl).cell 9 _ rfl
                        have c10 := (HB5.out.box 5 _ _ rfl).cell 10 _ rfl
                        have c11 := (HB5.out.box 5 _ _ rfl).cell 11 _ rfl
                        go_wp2_with fail
                        have HB7 := HB5.out
                        rw [HF.out] at HB7
                        go_roundg (4 - (1 + 1) + 1)
                        case measure => omega
                        case rel => exact ⟨2, k, rfl, by omega, by omega, by omega, HKN.out, HB7⟩
                    · have HU : Hid (upS (1 + 1) D y = B) := by rw [← HQ.out]; exact putS_self (hc.trans (by rw [HBj.out, HT.out]))
                      rw [← hm] at he
                      clear hc hm hfl
                      have cl := (HB3.out.box 5 _ _ rfl).lt
                      have c0 := (HB3.out.box 5 _ _ rfl).cell 0 _ rfl
                      have c1 := (HB3.out.box 5 _ _ rfl).cell 1 _ rfl
                      have c2 := (HB3.out.box 5 _ _ rfl).cell 2 _ rfl
                      have c3 := (HB3.out.box 5 _ _ rfl).cell 3 _ rfl
                      have c4 := (HB3.out.box 5 _ _ rfl).cell 4 _ rfl
                      have c5 := (HB3.out.box 5 _ _ rfl).cell 5 _ rfl
                      have c6 := (HB3.out.box 5 _ _ rfl).cell 6 _ rfl
                      have c7 := (HB3.out.box 5 _ _ rfl).cell 7 _ rfl
                      have c8 := (HB3.out.box 5 _ _ rfl).cell 8 _ rfl
                      have c9 := (HB3.out.box 5 _ _ rfl).cell 9 _ rfl
                      have c10 := (HB3.out.box 5 _ _ rfl).cell 10 _ rfl
                      have c11 := (HB3.out.box 5 _ _ rfl).cell 11 _ rfl
                      have el := (HB3.out.box 0 _ _ rfl).lt
                      have e0 := (HB3.out.box 0 _ _ rfl).cell 0 _ rfl
                      have e1 := (HB3.out.box 0 _ _ rfl).cell 1 _ rfl
                      have e2 := (HB3.out.box 0 _ _ rfl).cell 2 _ rfl
                      have e3 := (HB3.out.box 0 _ _ rfl).cell 3 _ rfl
                      have e4 := (HB3.out.box 0 _ _ rfl).cell 4 _ rfl
                      have e5 := (HB3.out.box 0 _ _ rfl).cell 5 _ rfl
                      have e6 := (HB3.out.box 0 _ _ rfl).cell 6 _ rfl
                      have e7 := (HB3.out.box 0 _ _ rfl).cell 7 _ rfl
                      have e8 := (HB3.out.box 0 _ _ rfl).cell 8 _ rfl
                      have e9 := (HB3.out.box 0 _ _ rfl).cell 9 _ rfl
                      have e10 := (HB3.out.box 0 _ _ rfl).cell 10 _ rfl
                      have e11 := (HB3.out.box 0 _ _ rfl).cell 11 _ rfl
                      go_big_quiet (fail)
                      go_upto_region 34 with (fail)
                      have HB5' := HB3.out.step (W' := w6.drewN nq) ⟨rfl, rfl, rfl, Nat.le_refl _, fun _ _ => rfl⟩
                      rw [← HU.out] at HB5'
                      clear he HB3
                      clear cl c0 c1 c2 c3 c4 c5 c6 c7 c8 c9 c10 c11
                      clear el e0 e1 e2 e3 e4 e5 e6 e7 e8 e9 e10 e11
                      obtain ⟨F, hF⟩ : ∃ F, F = upS (1 + 1) D y := ⟨_, rfl⟩
                      have hFj : F 1 = y 1 := by rw [hF]; exact if_pos (Nat.lt_succ_self _)
                      rw [← hF] at HB5'
                      have HB5 : Hid (Bxs w [(w.heap.size, [.int .i64 (t 0).m, .bool (t 0).f, .int .i64 (t 0).n, .int .i64 (t 1).m, .bool (t 1).f, .int .i64 (t 1).n, .int .i64 (t 2).m, .bool (t 2).f, .int .i64 (t 2).n, .int .i64 (t 3).m, .bool (t 3).f, .int .i64 (t 3).n]), (w.heap.size + 1, [.bool (o 0), .bool (o 1), .bool (o 2), .bool (o 3)]), (w.heap.size + 1 + 1, [.bool (f 0), .bool (f 1), .bool (f 2), .bool (f 3)]), (w.heap.size + 1 + 1 + 1, [.int .i64 0, .bool false, .int .i64 0, .int .i64 0, .bool false, .int .i64 0, .int .i64 0, .bool false, .int .i64 0, .int .i64 0, .bool false, .int .i64 0]), (w.heap.size + 1 + 1 + 1 + 1, [.int .i64 0, .int .i64 0, .bool false]), (w.heap.size + 1 + 1 + 1 + 1 + 1, [.int .i64 (F 0).m, .bool (F 0).f, .int .i64 (F 0).n, .int .i64 (F 1).m, .bool (F 1).f, .int .i64 (F 1).n, .int .i64 (F 2).m, .bool (F 2).f, .int .i64 (F 2).n, .int .i64 (F 3).m, .bool (F 3).f, .int .i64 (F 3).n]), (M, [.int .i64 q, .int .i64 k, .bool l])] _) := HB5'
                      have HF : Hid (F = upS (1 + 1) D y) := hF
                      clear HB5' hF
                      by_cases hm : (F 1).m = 1
                      · have HKN : Hid (acN y (1 + 1) = k + 1) := (acN_yes (by rw [← hFj]; exact hm)).trans (congrArg (· + 1) HK.out)
                        have hm1 : ((F 1).m == 1) = true := by simpa using hm
                        clear hm hFj
                        have cl := (HB5.out.box 5 _ _ rfl).lt
                        have c0 := (HB5.out.box 5 _ _ rfl).cell 0 _ rfl
                        have c1 := (HB5.out.box 5 _ _ rfl).cell 1 _ rfl
                        have c2 := (HB5.out.box 5 _ _ rfl).cell 2 _ rfl
                        have c3 := (HB5.out.box 5 _ _ rfl).cell 3 _ rfl
                        have c4 := (HB5.out.box 5 _ _ rfl).cell 4 _ rfl
                        have c5 := (HB5.out.box 5 _ _ rfl).cell 5 _ rfl
                        have c6 := (HB5.out.box 5 _ _ rfl).cell 6 _ rfl
                        have c7 := (HB5.out.box 5 _ _ rfl).cell 7 _ rfl
                        have c8 := (HB5.out.box 5 _ _ rfl).cell 8 _ rfl
                        have c9 := (HB5.out.box 5 _ _ rfl).cell 9 _ rfl
                        have c10 := (HB5.out.box 5 _ _ rfl).cell 10 _ rfl
                        have c11 := (HB5.out.box 5 _ _ rfl).cell 11 _ rfl
                        have dl := (HB5.out.box 6 _ _ rfl).lt
                        have d0 := (HB5.out.box 6 _ _ rfl).cell 0 _ rfl
                        have d1 := (HB5.out.box 6 _ _ rfl).cell 1 _ rfl
                        have d2 := (HB5.out.box 6 _ _ rfl).cell 2 _ rfl
                        have df0 := (HB5.out.box 6 _ _ rfl).froz 0 _ rfl
                        have df1 := (HB5.out.box 6 _ _ rfl).froz 1 _ rfl
                        have df2 := (HB5.out.box 6 _ _ rfl).froz 2 _ rfl
                        go_wp2_with fail
                        obtain ⟨w9, hw9, HB6⟩ := HB5.out.put1 6 M 1 _ (.int .i64 ((k : Int) + 1)) rfl (by simp)
                        rw [hw9]
                        have HB7 : Hid (Bxs w [(w.heap.size, [.int .i64 (t 0).m, .bool (t 0).f, .int .i64 (t 0).n, .int .i64 (t 1).m, .bool (t 1).f, .int .i64 (t 1).n, .int .i64 (t 2).m, .bool (t 2).f, .int .i64 (t 2).n, .int .i64 (t 3).m, .bool (t 3).f, .int .i64 (t 3).n]), (w.heap.size + 1, [.bool (o 0), .bool (o 1), .bool (o 2), .bool (o 3)]), (w.heap.size + 1 + 1, [.bool (f 0), .bool (f 1), .bool (f 2), .bool (f 3)]), (w.heap.size + 1 + 1 + 1, [.int .i64 0, .bool false, .int .i64 0, .int .i64 0, .bool false, .int .i64 0, .int .i64 0, .bool false, .int .i64 0, .int .i64 0, .bool false, .int .i64 0]), (w.heap.size + 1 + 1 + 1 + 1, [.int .i64 0, .int .i64 0, .bool false]), (w.heap.size + 1 + 1 + 1 + 1 + 1, [.int .i64 (F 0).m, .bool (F 0).f, .int .i64 (F 0).n, .int .i64 (F 1).m, .bool (F 1).f, .int .i64 (F 1).n, .int .i64 (F 2).m, .bool (F 2).f, .int .i64 (F 2).n, .int .i64 (F 3).m, .bool (F 3).f, .int .i64 (F 3).n]), (M, [.int .i64 q, .int .i64 ((k + 1 : Nat) : Int), .bool l])] w9) := HB6
                        clear hw9 HB6
                        rw [HF.out] at HB7
                        go_roundg (4 - (1 + 1) + 1)
                        case measure => omega
                        case rel => exact ⟨2, k + 1, rfl, by omega, by omega, by omega, HKN.out, HB7.out⟩
                      · have HKN : Hid (acN y (1 + 1) = k) := (acN_no (by rw [← hFj]; exact hm)).trans HK.out
                        have hm1 : ((F 1).m == 1) = false := by simpa using hm
                        clear hm hFj
                        have cl := (HB5.out.box 5 _ _ rfl).lt
                        have c0 := (HB5.out.box 5 _ _ rfl).cell 0 _ rfl
                        have c1 := (HB5.out.box 5 _ _ rfl).cell 1 _ rfl
                        have c2 := (HB5.out.box 5 _ _ rfl).cell 2 _ rfl
                        have c3 := (HB5.out.box 5 _ _ rfl).cell 3 _ rfl
                        have c4 := (HB5.out.box 5 _ _ rfl).cell 4 _ rfl
                        have c5 := (HB5.out.box 5 _ _ rfl).cell 5 _ rfl
                        have c6 := (HB5.out.box 5 _ _ rfl).cell 6 _ rfl
                        have c7 := (HB5.out.box 5 _ _ rfl).cell 7 _ rfl
                        have c8 := (HB5.out.box 5 _ _ rfl).cell 8 _ rfl
                        have c9 := (HB5.out.box 5 _ _ rfl).cell 9 _ rfl
                        have c10 := (HB5.out.box 5 _ _ rfl).cell 10 _ rfl
                        have c11 := (HB5.out.box 5 _ _ rfl).cell 11 _ rfl
                        go_wp2_with fail
                        have HB7 := HB5.out
                        rw [HF.out] at HB7
                        go_roundg (4 - (1 + 1) + 1)
                        case measure => omega
                        case rel => exact ⟨2, k, rfl, by omega, by omega, by omega, HKN.out, HB7⟩
                  · obtain ⟨w6, hw6, HB3'⟩ := HB.out.laneFor 5 _ X rfl 2 (by omega) 8 rfl 0
                    obtain ⟨B, hB⟩ : ∃ B, B = putS X 2 ⟨(X 2).m, (X 2).f, 0⟩ := ⟨_, rfl⟩
                    rw [← hB] at HB3'
                    have HB3 : Hid (Bxs w [(w.heap.size, [.int .i64 (t 0).m, .bool (t 0).f, .int .i64 (t 0).n, .int .i64 (t 1).m, .bool (t 1).f, .int .i64 (t 1).n, .int .i64 (t 2).m, .bool (t 2).f, .int .i64 (t 2).n, .int .i64 (t 3).m, .bool (t 3).f, .int .i64 (t 3).n]), (w.heap.size + 1, [.bool (o 0), .bool (o 1), .bool (o 2), .bool (o 3)]), (w.heap.size + 1 + 1, [.bool (f 0), .bool (f 1), .bool (f 2), .bool (f 3)]), (w.heap.size + 1 + 1 + 1, [.int .i64 0, .bool false, .int .i64 0, .int .i64 0, .bool false, .int .i64 0, .int .i64 0, .bool false, .int .i64 0, .int .i64 0, .bool false, .int .i64 0]), (w.heap.size + 1 + 1 + 1 + 1, [.int .i64 0, .int .i64 0, .bool false]), (w.heap.size + 1 + 1 + 1 + 1 + 1, [.int .i64 (B 0).m, .bool (B 0).f, .int .i64 (B 0).n, .int .i64 (B 1).m, .bool (B 1).f, .int .i64 (B 1).n, .int .i64 (B 2).m, .bool (B 2).f, .int .i64 (B 2).n, .int .i64 (B 3).m, .bool (B 3).f, .int .i64 (B 3).n]), (M, [.int .i64 q, .int .i64 k, .bool l])] w6) := HB3'
                    have HBj : Hid (B 2 = ⟨(X 2).m, (X 2).f, 0⟩) := by rw [hB]; exact putS_at _ _ _
                    have HQ : Hid (putS B 2 (y 2) = upS (2 + 1) D y) := by rw [hB, putS_putS]; exact HN.out
                    have hm : (B 2).m = (D 2).m := by rw [HBj.out, HT.out]
                    have hfl : (B 2).f = (D 2).f := by rw [HBj.out, HT.out]
                    clear HB3' hB HN
                    have cl := (HB.out.box 5 _ _ rfl).lt
                    have c0 := (HB.out.box 5 _ _ rfl).cell 0 _ rfl
                    have c1 := (HB.out.box 5 _ _ rfl).cell 1 _ rfl
                    have c2 := (HB.out.box 5 _ _ rfl).cell 2 _ rfl
                    have c3 := (HB.out.box 5 _ _ rfl).cell 3 _ rfl
                    have c4 := (HB.out.box 5 _ _ rfl).cell 4 _ rfl
                    have c5 := (HB.out.box 5 _ _ rfl).cell 5 _ rfl
                    have c6 := (HB.out.box 5 _ _ rfl).cell 6 _ rfl
                    have c7 := (HB.out.box 5 _ _ rfl).cell 7 _ rfl
                    have c8 := (HB.out.box 5 _ _ rfl).cell 8 _ rfl
                    have c9 := (HB.out.box 5 _ _ rfl).cell 9 _ rfl
                    have c10 := (HB.out.box 5 _ _ rfl).cell 10 _ rfl
                    have c11 := (HB.out.box 5 _ _ rfl).cell 11 _ rfl
                    have cf0 := (HB.out.box 5 _ _ rfl).froz 0 _ rfl
                    have cf1 := (HB.out.box 5 _ _ rfl).froz 1 _ rfl
                    have cf2 := (HB.out.box 5 _ _ rfl).froz 2 _ rfl
                    have cf3 := (HB.out.box 5 _ _ rfl).froz 3 _ rfl
                    have cf4 := (HB.out.box 5 _ _ rfl).froz 4 _ rfl
                    have cf5 := (HB.out.box 5 _ _ rfl).froz 5 _ rfl
                    have cf6 := (HB.out.box 5 _ _ rfl).froz 6 _ rfl
                    have cf7 := (HB.out.box 5 _ _ rfl).froz 7 _ rfl
                    have cf8 := (HB.out.box 5 _ _ rfl).froz 8 _ rfl
                    have cf9 := (HB.out.box 5 _ _ rfl).froz 9 _ rfl
                    have cf10 := (HB.out.box 5 _ _ rfl).froz 10 _ rfl
                    have cf11 := (HB.out.box 5 _ _ rfl).froz 11 _ rfl
                    go_upto_region 32 with (fail)
                    try rw [hw6]
                    clear hw6 HB
                    clear cl c0 c1 c2 c3 c4 c5 c6 c7 c8 c9 c10 c11
                    clear cf0 cf1 cf2 cf3 cf4 cf5 cf6 cf7 cf8 cf9 cf10 cf11
                    rcases HY.out 2 (by omega) with ⟨he, hc⟩ | ⟨he, hc⟩
                    · rw [← hm] at he
                      rw [← hm, ← hfl] at hc
                      have HU : Hid (_) := hc
                      obtain ⟨n1, n2⟩ := HI.out 2 (by omega)
                      obtain ⟨T, hT⟩ : ∃ T, T = tkI (t 2).n := ⟨_, rfl⟩
                      have hmin : ∀ (ts : Array TypeId) (ty : TypeId) (W : World), (Builtin.min_ ts ty #[.int .i64 10000, .int .i64 ((t 2).n + 1)]).run Try.prog W = .ok (.int .i64 T) W := fun ts ty W => by
                        rw [hT, run_min_int2 W ts ty .i64 .i64 10000 ((t 2).n + 1)]
                        unfold tkI
                        split <;> split <;> first | rfl | (congr 2; omega) | omega
                      rw [← hT] at HU
                      clear hc hT hm hfl
                      have cl := (HB3.out.box 5 _ _ rfl).lt
                      have c0 := (HB3.out.box 5 _ _ rfl).cell 0 _ rfl
                      have c1 := (HB3.out.box 5 _ _ rfl).cell 1 _ rfl
                      have c2 := (HB3.out.box 5 _ _ rfl).cell 2 _ rfl
                      have c3 := (HB3.out.box 5 _ _ rfl).cell 3 _ rfl
                      have c4 := (HB3.out.box 5 _ _ rfl).cell 4 _ rfl
                      have c5 := (HB3.out.box 5 _ _ rfl).cell 5 _ rfl
                      have c6 := (HB3.out.box 5 _ _ rfl).cell 6 _ rfl
                      have c7 := (HB3.out.box 5 _ _ rfl).cell 7 _ rfl
                      have c8 := (HB3.out.box 5 _ _ rfl).cell 8 _ rfl
                      have c9 := (HB3.out.box 5 _ _ rfl).cell 9 _ rfl
                      have c10 := (HB3.out.box 5 _ _ rfl).cell 10 _ rfl
                      have c11 := (HB3.out.box 5 _ _ rfl).cell 11 _ rfl
                      have cf0 := (HB3.out.box 5 _ _ rfl).froz 0 _ rfl
                      have cf1 := (HB3.out.box 5 _ _ rfl).froz 1 _ rfl
                      have cf2 := (HB3.out.box 5 _ _ rfl).froz 2 _ rfl
                      have cf3 := (HB3.out.box 5 _ _ rfl).froz 3 _ rfl
                      have cf4 := (HB3.out.box 5 _ _ rfl).froz 4 _ rfl
                      have cf5 := (HB3.out.box 5 _ _ rfl).froz 5 _ rfl
                      have cf6 := (HB3.out.box 5 _ _ rfl).froz 6 _ rfl
                      have cf7 := (HB3.out.box 5 _ _ rfl).froz 7 _ rfl
                      have cf8 := (HB3.out.box 5 _ _ rfl).froz 8 _ rfl
                      have cf9 := (HB3.out.box 5 _ _ rfl).froz 9 _ rfl
                      have cf10 := (HB3.out.box 5 _ _ rfl).froz 10 _ rfl
                      have cf11 := (HB3.out.box 5 _ _ rfl).froz 11 _ rfl
                      have el := (HB3.out.box 0 _ _ rfl).lt
                      have e0 := (HB3.out.box 0 _ _ rfl).cell 0 _ rfl
                      have e1 := (HB3.out.box 0 _ _ rfl).cell 1 _ rfl
                      have e2 := (HB3.out.box 0 _ _ rfl).cell 2 _ rfl
                      have e3 := (HB3.out.box 0 _ _ rfl).cell 3 _ rfl
                      have e4 := (HB3.out.box 0 _ _ rfl).cell 4 _ rfl
                      have e5 := (HB3.out.box 0 _ _ rfl).cell 5 _ rfl
                      have e6 := (HB3.out.box 0 _ _ rfl).cell 6 _ rfl
                      have e7 := (HB3.out.box 0 _ _ rfl).cell 7 _ rfl
                      have e8 := (HB3.out.box 0 _ _ rfl).cell 8 _ rfl
                      have e9 := (HB3.out.box 0 _ _ rfl).cell 9 _ rfl
                      have e10 := (HB3.out.box 0 _ _ rfl).cell 10 _ rfl
                      have e11 := (HB3.out.box 0 _ _ rfl).cell 11 _ rfl
                      go_big_quiet (fail)
                      go_upto_region 34 with (fail)
                      obtain ⟨w7, hw7, HB4⟩ := (HB3.out.step (W' := w6.drewN nq) ⟨rfl, rfl, rfl, Nat.le_refl _, fun _ _ => rfl⟩).laneFor 5 _ B rfl 2 (by omega) 8 rfl T
                      rw [hw7]
                      clear hw7
                      rw [← HU.out, HQ.out] at HB4
                      have HB5' : Bxs w [(w.heap.size, [.int .i64 (t 0).m, .bool (t 0).f, .int .i64 (t 0).n, .int .i64 (t 1).m, .bool (t 1).f, .int .i64 (t 1).n, .int .i64 (t 2).m, .bool (t 2).f, .int .i64 (t 2).n, .int .i64 (t 3).m, .bool (t 3).f, .int .i64 (t 3).n]), (w.heap.size + 1, [.bool (o 0), .bool (o 1), .bool (o 2), .bool (o 3)]), (w.heap.size + 1 + 1, [.bool (f 0), .bool (f 1), .bool (f 2), .bool (f 3)]), (w.heap.size + 1 + 1 + 1, [.int .i64 0, .bool false, .int .i64 0, .int .i64 0, .bool false, .int .i64 0, .int .i64 0, .bool false, .int .i64 0, .int .i64 0, .bool false, .int .i64 0]), (w.heap.size + 1 + 1 + 1 + 1, [.int .i64 0, .int .i64 0, .bool false]), (w.heap.size + 1 + 1 + 1 + 1 + 1, [.int .i64 ((upS (2 + 1) D y) 0).m, .bool ((upS (2 + 1) D y) 0).f, .int .i64 ((upS (2 + 1) D y) 0).n, .int .i64 ((upS (2 + 1) D y) 1).m, .bool ((upS (2 + 1) D y) 1).f, .int .i64 ((upS (2 + 1) D y) 1).n, .int .i64 ((upS (2 + 1) D y) 2).m, .bool ((upS (2 + 1) D y) 2).f, .int .i64 ((upS (2 + 1) D y) 2).n, .int .i64 ((upS (2 + 1) D y) 3).m, .bool ((upS (2 + 1) D y) 3).f, .int .i64 ((upS (2 + 1) D y) 3).n]), (M, [.int .i64 q, .int .i64 k, .bool l])] w7 := HB4
                      clear HB4 he hmin n1 n2 HB3
                      clear cl c0 c1 c2 c3 c4 c5 c6 c7 c8 c9 c10 c11
                      clear cf0 cf1 cf2 cf3 cf4 cf5 cf6 cf7 cf8 cf9 cf10 cf11
                      clear el e0 e1 e2 e3 e4 e5 e6 e7 e8 e9 e10 e11
                      obtain ⟨F, hF⟩ : ∃ F, F = upS (2 + 1) D y := ⟨_, rfl⟩
                      have hFj : F 2 = y 2 := by rw [hF]; exact if_pos (Nat.lt_succ_self _)
                      rw [← hF] at HB5'
                      have HB5 : Hid (Bxs w [(w.heap.size, [.int .i64 (t 0).m, .bool (t 0).f, .int .i64 (t 0).n, .int .i64 (t 1).m, .bool (t 1).f, .int .i64 (t 1).n, .int .i64 (t 2).m, .bool (t 2).f, .int .i64 (t 2).n, .int .i64 (t 3).m, .bool (t 3).f, .int .i64 (t 3).n]), (w.heap.size + 1, [.bool (o 0), .bool (o 1), .bool (o 2), .bool (o 3)]), (w.heap.size + 1 + 1, [.bool (f 0), .bool (f 1), .bool (f 2), .bool (f 3)]), (w.heap.size + 1 + 1 + 1, [.int .i64 0, .bool false, .int .i64 0, .int .i64 0, .bool false, .int .i64 0, .int .i64 0, .bool false, .int .i64 0, .int .i64 0, .bool false, .int .i64 0]), (w.heap.size + 1 + 1 + 1 + 1, [.int .i64 0, .int .i64 0, .bool false]), (w.heap.size + 1 + 1 + 1 + 1 + 1, [.int .i64 (F 0).m, .bool (F 0).f, .int .i64 (F 0).n, .int .i64 (F 1).m, .bool (F 1).f, .int .i64 (F 1).n, .int .i64 (F 2).m, .bool (F 2).f, .int .i64 (F 2).n, .int .i64 (F 3).m, .bool (F 3).f, .int .i64 (F 3).n]), (M, [.int .i64 q, .int .i64 k, .bool l])] _) := HB5'
                      have HF : Hid (F = upS (2 + 1) D y) := hF
                      clear HB5' hF
                      by_cases hm : (F 2).m = 1
                      · have HKN : Hid (acN y (2 + 1) = k + 1) := (acN_yes (by rw [← hFj]; exact hm)).trans (congrArg (· + 1) HK.out)
                        have hm1 : ((F 2).m == 1) = true := by simpa using hm
                        clear hm hFj
                        have cl := (HB5.out.box 5 _ _ rfl).lt
                        have c0 := (HB5.out.box 5 _ _ rfl).cell 0 _ rfl
                        have c1 := (HB5.out.box 5 _ _ rfl).cell 1 _ rfl
                        have c2 := (HB5.out.box 5 _ _ rfl).cell 2 _ rfl
                        have c3 := (HB5.out.box 5 _ _ rfl).cell 3 _ rfl
                        have c4 := (HB5.out.box 5 _ _ rfl).cell 4 _ rfl
                        have c5 := (HB5.out.box 5 _ _ rfl).cell 5 _ rfl
                        have c6 := (HB5.out.box 5 _ _ rfl).cell 6 _ rfl
                        have c7 := (HB5.out.box 5 _ _ rfl).cell 7 _ rfl
                        have c8 := (HB5.out.box 5 _ _ rfl).cell 8 _ rfl
                        have c9 := (HB5.out.box 5 _ _ rfl).cell 9 _ rfl
                        have c10 := (HB5.out.box 5 _ _ rfl).cell 10 _ rfl
                        have c11 := (HB5.out.box 5 _ _ rfl).cell 11 _ rfl
                        have dl := (HB5.out.box 6 _ _ rfl).lt
                        have d0 := (HB5.out.box 6 _ _ rfl).cell 0 _ rfl
                        have d1 := (HB5.out.box 6 _ _ rfl).cell 1 _ rfl
                        have d2 := (HB5.out.box 6 _ _ rfl).cell 2 _ rfl
                        have df0 := (HB5.out.box 6 _ _ rfl).froz 0 _ rfl
                        have df1 := (HB5.out.box 6 _ _ rfl).froz 1 _ rfl
                        have df2 := (HB5.out.box 6 _ _ rfl).froz 2 _ rfl
                        go_wp2_with fail
                        obtain ⟨w9, hw9, HB6⟩ := HB5.out.put1 6 M 1 _ (.int .i64 ((k : Int) + 1)) rfl (by simp)
                        rw [hw9]
                        have HB7 : Hid (Bxs w [(w.heap.size, [.int .i64 (t 0).m, .bool (t 0).f, .int .i64 (t 0).n, .int .i64 (t 1).m, .bool (t 1).f, .int .i64 (t 1).n, .int .i64 (t 2).m, .bool (t 2).f, .int .i64 (t 2).n, .int .i64 (t 3).m, .bool (t 3).f, .int .i64 (t 3).n]), (w.heap.size + 1, [.bool (o 0), .bool (o 1), .bool (o 2), .bool (o 3)]), (w.heap.size + 1 + 1, [.bool (f 0), .bool (f 1), .bool (f 2), .bool (f 3)]), (w.heap.size + 1 + 1 + 1, [.int .i64 0, .bool false, .int .i64 0, .int .i64 0, .bool false, .int .i64 0, .int .i64 0, .bool false, .int .i64 0, .int .i64 0, .bool false, .int .i64 0]), (w.heap.size + 1 + 1 + 1 + 1, [.int .i64 0, .int .i64 0, .bool false]), (w.heap.size + 1 + 1 + 1 + 1 + 1, [.int .i64 (F 0).m, .bool (F 0).f, .int .i64 (F 0).n, .int .i64 (F 1).m, .bool (F 1).f, .int .i64 (F 1).n, .int .i64 (F 2).m, .bool (F 2).f, .int .i64 (F 2).n, .int .i64 (F 3).m, .bool (F 3).f, .int .i64 (F 3).n]), (M, [.int .i64 q, .int .i64 ((k + 1 : Nat) : Int), .bool l])] w9) := HB6
                        clear hw9 HB6
                        rw [HF.out] at HB7
                        go_roundg (4 - (2 + 1) + 1)
                        case measure => omega
                        case rel => exact ⟨3, k + 1, rfl, by omega, by omega, by omega, HKN.out, HB7.out⟩
                      · have HKN : Hid (acN y (2 + 1) = k) := (acN_no (by rw [← hFj]; exact hm)).trans HK.out
                        have hm1 : ((F 2).m == 1) = false := by simpa using hm
                        clear hm hFj
                        have cl := (HB5.out.box 5 _ _ rfl).lt
                        have c0 := (HB5.out.box 5 _ _ rfl).cell 0 _ rfl
                        have c1 := (HB5.out.box 5 _ _ rfl).cell 1 _ rfl
                        have c2 := (HB5.out.box 5 _ _ rfl).cell 2 _ rfl
                        have c3 := (HB5.out.box 5 _ _ rfl).cell 3 _ rfl
                        have c4 := (HB5.out.box 5 _ _ rfl).cell 4 _ rfl
                        have c5 := (HB5.out.box 5 _ _ rfl).cell 5 _ rfl
                        have c6 := (HB5.out.box 5 _ _ rfl).cell 6 _ rfl
                        have c7 := (HB5.out.box 5 _ _ rfl).cell 7 _ rfl
                        have c8 := (HB5.out.box 5 _ _ rfl).cell 8 _ rfl
                        have c9 := (HB5.out.box 5 _ _ rfl).cell 9 _ rfl
                        have c10 := (HB5.out.box 5 _ _ rfl).cell 10 _ rfl
                        have c11 := (HB5.out.box 5 _ _ rfl).cell 11 _ rfl
                        go_wp2_with fail
                        have HB7 := HB5.out
                        rw [HF.out] at HB7
                        go_roundg (4 - (2 + 1) + 1)
                        case measure => omega
                        case rel => exact ⟨3, k, rfl, by omega, by omega, by omega, HKN.out, HB7⟩
                    · have HU : Hid (upS (2 + 1) D y = B) := by rw [← HQ.out]; exact putS_self (hc.trans (by rw [HBj.out, HT.out]))
                      rw [← hm] at he
                      clear hc hm hfl
                      have cl := (HB3.out.box 5 _ _ rfl).lt
                      have c0 := (HB3.out.box 5 _ _ rfl).cell 0 _ rfl
                      have c1 := (HB3.out.box 5 _ _ rfl).cell 1 _ rfl
                      have c2 := (HB3.out.box 5 _ _ rfl).cell 2 _ rfl
                      have c3 := (HB3.out.box 5 _ _ rfl).cell 3 _ rfl
                      have c4 := (HB3.out.box 5 _ _ rfl).cell 4 _ rfl
                      have c5 := (HB3.out.box 5 _ _ rfl).cell 5 _ rfl
                      have c6 := (HB3.out.box 5 _ _ rfl).cell 6 _ rfl
                      have c7 := (HB3.out.box 5 _ _ rfl).cell 7 _ rfl
                      have c8 := (HB3.out.box 5 _ _ rfl).cell 8 _ rfl
                      have c9 := (HB3.out.box 5 _ _ rfl).cell 9 _ rfl
                      have c10 := (HB3.out.box 5 _ _ rfl).cell 10 _ rfl
                      have c11 := (HB3.out.box 5 _ _ rfl).cell 11 _ rfl
                      have el := (HB3.out.box 0 _ _ rfl).lt
                      have e0 := (HB3.out.box 0 _ _ rfl).cell 0 _ rfl
                      have e1 := (HB3.out.box 0 _ _ rfl).cell 1 _ rfl
                      have e2 := (HB3.out.box 0 _ _ rfl).cell 2 _ rfl
                      have e3 := (HB3.out.box 0 _ _ rfl).cell 3 _ rfl
                      have e4 := (HB3.out.box 0 _ _ rfl).cell 4 _ rfl
                      have e5 := (HB3.out.box 0 _ _ rfl).cell 5 _ rfl
                      have e6 := (HB3.out.box 0 _ _ rfl).cell 6 _ rfl
                      have e7 := (HB3.out.box 0 _ _ rfl).cell 7 _ rfl
                      have e8 := (HB3.out.box 0 _ _ rfl).cell 8 _ rfl
                      have e9 := (HB3.out.box 0 _ _ rfl).cell 9 _ rfl
                      have e10 := (HB3.out.box 0 _ _ rfl).cell 10 _ rfl
                      have e11 := (HB3.out.box 0 _ _ rfl).cell 11 _ rfl
                      go_big_quiet (fail)
                      go_upto_region 34 with (fail)
                      have HB5' := HB3.out.step (W' := w6.drewN nq) ⟨rfl, rfl, rfl, Nat.le_refl _, fun _ _ => rfl⟩
                      rw [← HU.out] at HB5'
                      clear he HB3
                      clear cl c0 c1 c2 c3 c4 c5 c6 c7 c8 c9 c10 c11
                      clear el e0 e1 e2 e3 e4 e5 e6 e7 e8 e9 e10 e11
                      obtain ⟨F, hF⟩ : ∃ F, F = upS (2 + 1) D y := ⟨_, rfl⟩
                      have hFj : F 2 = y 2 := by rw [hF]; exact if_pos (Nat.lt_succ_self _)
                      rw [← hF] at HB5'
                      have HB5 : Hid (Bxs w [(w.heap.size, [.int .i64 (t 0).m, .bool (t 0).f, .int .i64 (t 0).n, .int .i64 (t 1).m, .bool (t 1).f, .int .i64 (t 1).n, .int .i64 (t 2).m, .bool (t 2).f, .int .i64 (t 2).n, .int .i64 (t 3).m, .bool (t 3).f, .int .i64 (t 3).n]), (w.heap.size + 1, [.bool (o 0), .bool (o 1), .bool (o 2), .bool (o 3)]), (w.heap.size + 1 + 1, [.bool (f 0), .bool (f 1), .bool (f 2), .bool (f 3)]), (w.heap.size + 1 + 1 + 1, [.int .i64 0, .bool false, .int .i64 0, .int .i64 0, .bool false, .int .i64 0, .int .i64 0, .bool false, .int .i64 0, .int .i64 0, .bool false, .int .i64 0]), (w.heap.size + 1 + 1 + 1 + 1, [.int .i64 0, .int .i64 0, .bool false]), (w.heap.size + 1 + 1 + 1 + 1 + 1, [.int .i64 (F 0).m, .bool (F 0).f, .int .i64 (F 0).n, .int .i64 (F 1).m, .bool (F 1).f, .int .i64 (F 1).n, .int .i64 (F 2).m, .bool (F 2).f, .int .i64 (F 2).n, .int .i64 (F 3).m, .bool (F 3).f, .int .i64 (F 3).n]), (M, [.int .i64 q, .int .i64 k, .bool l])] _) := HB5'
                      have HF : Hid (F = upS (2 + 1) D y) := hF
                      clear HB5' hF
                      by_cases hm : (F 2).m = 1
                      · have HKN : Hid (acN y (2 + 1) = k + 1) := (acN_yes (by rw [← hFj]; exact hm)).trans (congrArg (· + 1) HK.out)
                        have hm1 : ((F 2).m == 1) = true := by simpa using hm
                        clear hm hFj
                        have cl := (HB5.out.box 5 _ _ rfl).lt
                        have c0 := (HB5.out.box 5 _ _ rfl).cell 0 _ rfl
                        have c1 := (HB5.out.box 5 _ _ rfl).cell 1 _ rfl
                        have c2 := (HB5.out.box 5 _ _ rfl).cell 2 _ rfl
                        have c3 := (HB5.out.box 5 _ _ rfl).cell 3 _ rfl
                        have c4 := (HB5.out.box 5 _ _ rfl).cell 4 _ rfl
                        have c5 := (HB5.out.box 5 _ _ rfl).cell 5 _ rfl
                        have c6 := (HB5.out.box 5 _ _ rfl).cell 6 _ rfl
                        have c7 := (HB5.out.box 5 _ _ rfl).cell 7 _ rfl
                        have c8 := (HB5.out.box 5 _ _ rfl).cell 8 _ rfl
                        have c9 := (HB5.out.box 5 _ _ rfl).cell 9 _ rfl
                        have c10 := (HB5.out.box 5 _ _ rfl).cell 10 _ rfl
                        have c11 := (HB5.out.box 5 _ _ rfl).cell 11 _ rfl
                        have dl := (HB5.out.box 6 _ _ rfl).lt
                        have d0 := (HB5.out.box 6 _ _ rfl).cell 0 _ rfl
                        have d1 := (HB5.out.box 6 _ _ rfl).cell 1 _ rfl
                        have d2 := (HB5.out.box 6 _ _ rfl).cell 2 _ rfl
                        have df0 := (HB5.out.box 6 _ _ rfl).froz 0 _ rfl
                        have df1 := (HB5.out.box 6 _ _ rfl).froz 1 _ rfl
                        have df2 := (HB5.out.box 6 _ _ rfl).froz 2 _ rfl
                        go_wp2_with fail
                        obtain ⟨w9, hw9, HB6⟩ := HB5.out.put1 6 M 1 _ (.int .i64 ((k : Int) + 1)) rfl (by simp)
                        rw [hw9]
                        have HB7 : Hid (Bxs w [(w.heap.size, [.int .i64 (t 0).m, .bool (t 0).f, .int .i64 (t 0).n, .int .i64 (t 1).m, .bool (t 1).f, .int .i64 (t 1).n, .int .i64 (t 2).m, .bool (t 2).f, .int .i64 (t 2).n, .int .i64 (t 3).m, .bool (t 3).f, .int .i64 (t 3).n]), (w.heap.size + 1, [.bool (o 0), .bool (o 1), .bool (o 2), .bool (o 3)]), (w.heap.size + 1 + 1, [.bool (f 0), .bool (f 1), .bool (f 2), .bool (f 3)]), (w.heap.size + 1 + 1 + 1, [.int .i64 0, .bool false, .int .i64 0, .int .i64 0, .bool false, .int .i64 0, .int .i64 0, .bool false, .int .i64 0, .int .i64 0, .bool false, .int .i64 0]), (w.heap.size + 1 + 1 + 1 + 1, [.int .i64 0, .int .i64 0, .bool false]), (w.heap.size + 1 + 1 + 1 + 1 + 1, [.int .i64 (F 0).m, .bool (F 0).f, .int .i64 (F 0).n, .int .i64 (F 1).m, .bool (F 1).f, .int .i64 (F 1).n, .int .i64 (F 2).m, .bool (F 2).f, .int .i64 (F 2).n, .int .i64 (F 3).m, .bool (F 3).f, .int .i64 (F 3).n]), (M, [.int .i64 q, .int .i64 ((k + 1 : Nat) : Int), .bool l])] w9) := HB6
                        clear hw9 HB6
                        rw [HF.out] at HB7
                        go_roundg (4 - (2 + 1) + 1)
                        case measure => omega
                        case rel => exact ⟨3, k + 1, rfl, by omega, by omega, by omega, HKN.out, HB7.out⟩
                      · have HKN : Hid (acN y (2 + 1) = k) := (acN_no (by rw [← hFj]; exact hm)).trans HK.out
                        have hm1 : ((F 2).m == 1) = false := by simpa using hm
                        clear hm hFj
                        have cl := (HB5.out.box 5 _ _ rfl).lt
                        have c0 := (HB5.out.box 5 _ _ rfl).cell 0 _ rfl
                        have c1 := (HB5.out.box 5 _ _ rfl).cell 1 _ rfl
                        have c2 := (HB5.out.box 5 _ _ rfl).cell 2 _ rfl
                        have c3 := (HB5.out.box 5 _ _ rfl).cell 3 _ rfl
                        have c4 := (HB5.out.box 5 _ _ rfl).cell 4 _ rfl
                        have c5 := (HB5.out.box 5 _ _ rfl).cell 5 _ rfl
                        have c6 := (HB5.out.box 5 _ _ rfl).cell 6 _ rfl
                        have c7 := (HB5.out.box 5 _ _ rfl).cell 7 _ rfl
                        have c8 := (HB5.out.box 5 _ _ rfl).cell 8 _ rfl
                        have c9 := (HB5.out.box 5 _ _ rfl).cell 9 _ rfl
                        have c10 := (HB5.out.box 5 _ _ rfl).cell 10 _ rfl
                        have c11 := (HB5.out.box 5 _ _ rfl).cell 11 _ rfl
                        go_wp2_with fail
                        have HB7 := HB5.out
                        rw [HF.out] at HB7
                        go_roundg (4 - (2 + 1) + 1)
                        case measure => omega
                        case rel => exact ⟨3, k, rfl, by omega, by omega, by omega, HKN.out, HB7⟩
                  · obtain ⟨w6, hw6, HB3'⟩ := HB.out.laneFor 5 _ X rfl 3 (by omega) 11 rfl 0
                    obtain ⟨B, hB⟩ : ∃ B, B = putS X 3 ⟨(X 3).m, (X 3).f, 0⟩ := ⟨_, rfl⟩
                    rw [← hB] at HB3'
                    have HB3 : Hid (Bxs w [(w.heap.size, [.int .i64 (t 0).m, .bool (t 0).f, .int .i64 (t 0).n, .int .i64 (t 1).m, .bool (t 1).f, .int .i64 (t 1).n, .int .i64 (t 2).m, .bool (t 2).f, .int .i64 (t 2).n, .int .i64 (t 3).m, .bool (t 3).f, .int .i64 (t 3).n]), (w.heap.size + 1, [.bool (o 0), .bool (o 1), .bool (o 2), .bool (o 3)]), (w.heap.size + 1 + 1, [.bool (f 0), .bool (f 1), .bool (f 2), .bool (f 3)]), (w.heap.size + 1 + 1 + 1, [.int .i64 0, .bool false, .int .i64 0, .int .i64 0, .bool false, .int .i64 0, .int .i64 0, .bool false, .int .i64 0, .int .i64 0, .bool false, .int .i64 0]), (w.heap.size + 1 + 1 + 1 + 1, [.int .i64 0, .int .i64 0, .bool false]), (w.heap.size + 1 + 1 + 1 + 1 + 1, [.int .i64 (B 0).m, .bool (B 0).f, .int .i64 (B 0).n, .int .i64 (B 1).m, .bool (B 1).f, .int .i64 (B 1).n, .int .i64 (B 2).m, .bool (B 2).f, .int .i64 (B 2).n, .int .i64 (B 3).m, .bool (B 3).f, .int .i64 (B 3).n]), (M, [.int .i64 q, .int .i64 k, .bool l])] w6) := HB3'
                    have HBj : Hid (B 3 = ⟨(X 3).m, (X 3).f, 0⟩) := by rw [hB]; exact putS_at _ _ _
                    have HQ : Hid (putS B 3 (y 3) = upS (3 + 1) D y) := by rw [hB, putS_putS]; exact HN.out
                    have hm : (B 3).m = (D 3).m := by rw [HBj.out, HT.out]
                    have hfl : (B 3).f = (D 3).f := by rw [HBj.out, HT.out]
                    clear HB3' hB HN
                    have cl := (HB.out.box 5 _ _ rfl).lt
                    have c0 := (HB.out.box 5 _ _ rfl).cell 0 _ rfl
                    have c1 := (HB.out.box 5 _ _ rfl).cell 1 _ rfl
                    have c2 := (HB.out.box 5 _ _ rfl).cell 2 _ rfl
                    have c3 := (HB.out.box 5 _ _ rfl).cell 3 _ rfl
                    have c4 := (HB.out.box 5 _ _ rfl).cell 4 _ rfl
                    have c5 := (HB.out.box 5 _ _ rfl).cell 5 _ rfl
                    have c6 := (HB.out.box 5 _ _ rfl).cell 6 _ rfl
                    have c7 := (HB.out.box 5 _ _ rfl).cell 7 _ rfl
                    have c8 := (HB.out.box 5 _ _ rfl).cell 8 _ rfl
                    have c9 := (HB.out.box 5 _ _ rfl).cell 9 _ rfl
                    have c10 := (HB.out.box 5 _ _ rfl).cell 10 _ rfl
                    have c11 := (HB.out.box 5 _ _ rfl).cell 11 _ rfl
                    have cf0 := (HB.out.box 5 _ _ rfl).froz 0 _ rfl
                    have cf1 := (HB.out.box 5 _ _ rfl).froz 1 _ rfl
                    have cf2 := (HB.out.box 5 _ _ rfl).froz 2 _ rfl
                    have cf3 := (HB.out.box 5 _ _ rfl).froz 3 _ rfl
                    have cf4 := (HB.out.box 5 _ _ rfl).froz 4 _ rfl
                    have cf5 := (HB.out.box 5 _ _ rfl).froz 5 _ rfl
                    have cf6 := (HB.out.box 5 _ _ rfl).froz 6 _ rfl
                    have cf7 := (HB.out.box 5 _ _ rfl).froz 7 _ rfl
                    have cf8 := (HB.out.box 5 _ _ rfl).froz 8 _ rfl
                    have cf9 := (HB.out.box 5 _ _ rfl).froz 9 _ rfl
                    have cf10 := (HB.out.box 5 _ _ rfl).froz 10 _ rfl
                    have cf11 := (HB.out.box 5 _ _ rfl).froz 11 _ rfl
                    go_upto_region 32 with (fail)
                    try rw [hw6]
                    clear hw6 HB
                    clear cl c0 c1 c2 c3 c4 c5 c6 c7 c8 c9 c10 c11
                    clear cf0 cf1 cf2 cf3 cf4 cf5 cf6 cf7 cf8 cf9 cf10 cf11
                    rcases HY.out 3 (by omega) with ⟨he, hc⟩ | ⟨he, hc⟩
                    · rw [← hm] at he
                      rw [← hm, ← hfl] at hc
                      have HU : Hid (_) := hc
                      obtain ⟨n1, n2⟩ := HI.out 3 (by omega)
                      obtain ⟨T, hT⟩ : ∃ T, T = tkI (t 3).n := ⟨_, rfl⟩
                      have hmin : ∀ (ts : Array TypeId) (ty : TypeId) (W : World), (Builtin.min_ ts ty #[.int .i64 10000, .int .i64 ((t 3).n + 1)]).run Try.prog W = .ok (.int .i64 T) W := fun ts ty W => by
                        rw [hT, run_min_int2 W ts ty .i64 .i64 10000 ((t 3).n + 1)]
                        unfold tkI
                        split <;> split <;> first | rfl | (congr 2; omega) | omega
                      rw [← hT] at HU
                      clear hc hT hm hfl
                      have cl := (HB3.out.box 5 _ _ rfl).lt
                      have c0 := (HB3.out.box 5 _ _ rfl).cell 0 _ rfl
                      have c1 := (HB3.out.box 5 _ _ rfl).cell 1 _ rfl
                      have c2 := (HB3.out.box 5 _ _ rfl).cell 2 _ rfl
                      have c3 := (HB3.out.box 5 _ _ rfl).cell 3 _ rfl
                      have c4 := (HB3.out.box 5 _ _ rfl).cell 4 _ rfl
                      have c5 := (HB3.out.box 5 _ _ rfl).cell 5 _ rfl
                      have c6 := (HB3.out.box 5 _ _ rfl).cell 6 _ rfl
                      have c7 := (HB3.out.box 5 _ _ rfl).cell 7 _ rfl
                      have c8 := (HB3.out.box 5 _ _ rfl).cell 8 _ rfl
                      have c9 := (HB3.out.box 5 _ _ rfl).cell 9 _ rfl
                      have c10 := (HB3.out.box 5 _ _ rfl).cell 10 _ rfl
                      have c11 := (HB3.out.box 5 _ _ rfl).cell 11 _ rfl
                      have cf0 := (HB3.out.box 5 _ _ rfl).froz 0 _ rfl
                      have cf1 := (HB3.out.box 5 _ _ rfl).froz 1 _ rfl
                      have cf2 := (HB3.out.box 5 _ _ rfl).froz 2 _ rfl
                      have cf3 := (HB3.out.box 5 _ _ rfl).froz 3 _ rfl
                      have cf4 := (HB3.out.box 5 _ _ rfl).froz 4 _ rfl
                      have cf5 := (HB3.out.box 5 _ _ rfl).froz 5 _ rfl
                      have cf6 := (HB3.out.box 5 _ _ rfl).froz 6 _ rfl
                      have cf7 := (HB3.out.box 5 _ _ rfl).froz 7 _ rfl
                      have cf8 := (HB3.out.box 5 _ _ rfl).froz 8 _ rfl
                      have cf9 := (HB3.out.box 5 _ _ rfl).froz 9 _ rfl
                      have cf10 := (HB3.out.box 5 _ _ rfl).froz 10 _ rfl
                      have cf11 := (HB3.out.box 5 _ _ rfl).froz 11 _ rfl
                      have el := (HB3.out.box 0 _ _ rfl).lt
                      have e0 := (HB3.out.box 0 _ _ rfl).cell 0 _ rfl
                      have e1 := (HB3.out.box 0 _ _ rfl).cell 1 _ rfl
                      have e2 := (HB3.out.box 0 _ _ rfl).cell 2 _ rfl
                      have e3 := (HB3.out.box 0 _ _ rfl).cell 3 _ rfl
                      have e4 := (HB3.out.box 0 _ _ rfl).cell 4 _ rfl
                      have e5 := (HB3.out.box 0 _ _ rfl).cell 5 _ rfl
                      have e6 := (HB3.out.box 0 _ _ rfl).cell 6 _ rfl
                      have e7 := (HB3.out.box 0 _ _ rfl).cell 7 _ rfl
                      have e8 := (HB3.out.box 0 _ _ rfl).cell 8 _ rfl
                      have e9 := (HB3.out.box 0 _ _ rfl).cell 9 _ rfl
                      have e10 := (HB3.out.box 0 _ _ rfl).cell 10 _ rfl
                      have e11 := (HB3.out.box 0 _ _ rfl).cell 11 _ rfl
                      go_big_quiet (fail)
                      go_upto_region 34 with (fail)
                      obtain ⟨w7, hw7, HB4⟩ := (HB3.out.step (W' := w6.drewN nq) ⟨rfl, rfl, rfl, Nat.le_refl _, fun _ _ => rfl⟩).laneFor 5 _ B rfl 3 (by omega) 11 rfl T
                      rw [hw7]
                      clear hw7
                      rw [← HU.out, HQ.out] at HB4
                      have HB5' : Bxs w [(w.heap.size, [.int .i64 (t 0).m, .bool (t 0).f, .int .i64 (t 0).n, .int .i64 (t 1).m, .bool (t 1).f, .int .i64 (t 1).n, .int .i64 (t 2).m, .bool (t 2).f, .int .i64 (t 2).n, .int .i64 (t 3).m, .bool (t 3).f, .int .i64 (t 3).n]), (w.heap.size + 1, [.bool (o 0), .bool (o 1), .bool (o 2), .bool (o 3)]), (w.heap.size + 1 + 1, [.bool (f 0), .bool (f 1), .bool (f 2), .bool (f 3)]), (w.heap.size + 1 + 1 + 1, [.int .i64 0, .bool false, .int .i64 0, .int .i64 0, .bool false, .int .i64 0, .int .i64 0, .bool false, .int .i64 0, .int .i64 0, .bool false, .int .i64 0]), (w.heap.size + 1 + 1 + 1 + 1, [.int .i64 0, .int .i64 0, .bool false]), (w.heap.size + 1 + 1 + 1 + 1 + 1, [.int .i64 ((upS (3 + 1) D y) 0).m, .bool ((upS (3 + 1) D y) 0).f, .int .i64 ((upS (3 + 1) D y) 0).n, .int .i64 ((upS (3 + 1) D y) 1).m, .bool ((upS (3 + 1) D y) 1).f, .int .i64 ((upS (3 + 1) D y) 1).n, .int .i64 ((upS (3 + 1) D y) 2).m, .bool ((upS (3 + 1) D y) 2).f, .int .i64 ((upS (3 + 1) D y) 2).n, .int .i64 ((upS (3 + 1) D y) 3).m, .bool ((upS (3 + 1) D y) 3).f, .int .i64 ((upS (3 + 1) D y) 3).n]), (M, [.int .i64 q, .int .i64 k, .bool l])] w7 := HB4
                      clear HB4 he hmin n1 n2 HB3
                      clear cl c0 c1 c2 c3 c4 c5 c6 c7 c8 c9 c10 c11
                      clear cf0 cf1 cf2 cf3 cf4 cf5 cf6 cf7 cf8 cf9 cf10 cf11
                      clear el e0 e1 e2 e3 e4 e5 e6 e7 e8 e9 e10 e11
                      obtain ⟨F, hF⟩ : ∃ F, F = upS (3 + 1) D y := ⟨_, rfl⟩
                      have hFj : F 3 = y 3 := by rw [hF]; exact if_pos (Nat.lt_succ_self _)
                      rw [← hF] at HB5'
                      have HB5 : Hid (Bxs w [(w.heap.size, [.int .i64 (t 0).m, .bool (t 0).f, .int .i64 (t 0).n, .int .i64 (t 1).m, .bool (t 1).f, .int .i64 (t 1).n, .int .i64 (t 2).m, .bool (t 2).f, .int .i64 (t 2).n, .int .i64 (t 3).m, .bool (t 3).f, .int .i64 (t 3).n]), (w.heap.size + 1, [.bool (o 0), .bool (o 1), .bool (o 2), .bool (o 3)]), (w.heap.size + 1 + 1, [.bool (f 0), .bool (f 1), .bool (f 2), .bool (f 3)]), (w.heap.size + 1 + 1 + 1, [.int .i64 0, .bool false, .int .i64 0, .int .i64 0, .bool false, .int .i64 0, .int .i64 0, .bool false, .int .i64 0, .int .i64 0, .bool false, .int .i64 0]), (w.heap.size + 1 + 1 + 1 + 1, [.int .i64 0, .int .i64 0, .bool false]), (w.heap.size + 1 + 1 + 1 + 1 + 1, [.int .i64 (F 0).m, .bool (F 0).f, .int .i64 (F 0).n, .int .i64 (F 1).m, .bool (F 1).f, .int .i64 (F 1).n, .int .i64 (F 2).m, .bool (F 2).f, .int .i64 (F 2).n, .int .i64 (F 3).m, .bool (F 3).f, .int .i64 (F 3).n]), (M, [.int .i64 q, .int .i64 k, .bool l])] _) := HB5'
                      have HF : Hid (F = upS (3 + 1) D y) := hF
                      clear HB5' hF
                      by_cases hm : (F 3).m = 1
                      · have HKN : Hid (acN y (3 + 1) = k + 1) := (acN_yes (by rw [← hFj]; exact hm)).trans (congrArg (· + 1) HK.out)
                        have hm1 : ((F 3).m == 1) = true := by simpa using hm
                        clear hm hFj
                        have cl := (HB5.out.box 5 _ _ rfl).lt
                        have c0 := (HB5.out.box 5 _ _ rfl).cell 0 _ rfl
                        have c1 := (HB5.out.box 5 _ _ rfl).cell 1 _ rfl
                        have c2 := (HB5.out.box 5 _ _ rfl).cell 2 _ rfl
                        have c3 := (HB5.out.box 5 _ _ rfl).cell 3 _ rfl
                        have c4 := (HB5.out.box 5 _ _ rfl).cell 4 _ rfl
                        have c5 := (HB5.out.box 5 _ _ rfl).cell 5 _ rfl
                        have c6 := (HB5.out.box 5 _ _ rfl).cell 6 _ rfl
                        have c7 := (HB5.out.box 5 _ _ rfl).cell 7 _ rfl
                        have c8 := (HB5.out.box 5 _ _ rfl).cell 8 _ rfl
                        have c9 := (HB5.out.box 5 _ _ rfl).cell 9 _ rfl
                        have c10 := (HB5.out.box 5 _ _ rfl).cell 10 _ rfl
                        have c11 := (HB5.out.box 5 _ _ rfl).cell 11 _ rfl
                        have dl := (HB5.out.box 6 _ _ rfl).lt
                        have d0 := (HB5.out.box 6 _ _ rfl).cell 0 _ rfl
                        have d1 := (HB5.out.box 6 _ _ rfl).cell 1 _ rfl
                        have d2 := (HB5.out.box 6 _ _ rfl).cell 2 _ rfl
                        have df0 := (HB5.out.box 6 _ _ rfl).froz 0 _ rfl
                        have df1 := (HB5.out.box 6 _ _ rfl).froz 1 _ rfl
                        have df2 := (HB5.out.box 6 _ _ rfl).froz 2 _ rfl
                        go_wp2_with fail
                        obtain ⟨w9, hw9, HB6⟩ := HB5.out.put1 6 M 1 _ (.int .i64 ((k : Int) + 1)) rfl (by simp)
                        rw [hw9]
                        have HB7 : Hid (Bxs w [(w.heap.size, [.int .i64 (t 0).m, .bool (t 0).f, .int .i64 (t 0).n, .int .i64 (t 1).m, .bool (t 1).f, .int .i64 (t 1).n, .int .i64 (t 2).m, .bool (t 2).f, .int .i64 (t 2).n, .int .i64 (t 3).m, .bool (t 3).f, .int .i64 (t 3).n]), (w.heap.size + 1, [.bool (o 0), .bool (o 1), .bool (o 2), .bool (o 3)]), (w.heap.size + 1 + 1, [.bool (f 0), .bool (f 1), .bool (f 2), .bool (f 3)]), (w.heap.size + 1 + 1 + 1, [.int .i64 0, .bool false, .int .i64 0, .int .i64 0, .bool false, .int .i64 0, .int .i64 0, .bool false, .int .i64 0, .int .i64 0, .bool false, .int .i64 0]), (w.heap.size + 1 + 1 + 1 + 1, [.int .i64 0, .int .i64 0, .bool false]), (w.heap.size + 1 + 1 + 1 + 1 + 1, [.int .i64 (F 0).m, .bool (F 0).f, .int .i64 (F 0).n, .int .i64 (F 1).m, .bool (F 1).f, .int .i64 (F 1).n, .int .i64 (F 2).m, .bool (F 2).f, .int .i64 (F 2).n, .int .i64 (F 3).m, .bool (F 3).f, .int .i64 (F 3).n]), (M, [.int .i64 q, .int .i64 ((k + 1 : Nat) : Int), .bool l])] w9) := HB6
                        clear hw9 HB6
                        rw [HF.out] at HB7
                        go_roundg (4 - (3 + 1) + 1)
                        case measure => omega
                        case rel => exact ⟨4, k + 1, rfl, by omega, by omega, by omega, HKN.out, HB7.out⟩
                      · have HKN : Hid (acN y (3 + 1) = k) := (acN_no (by rw [← hFj]; exact hm)).trans HK.out
                        have hm1 : ((F 3).m == 1) = false := by simpa using hm
                        clear hm hFj
                        have cl := (HB5.out.box 5 _ _ rfl).lt
                        have c0 := (HB5.out.box 5 _ _ rfl).cell 0 _ rfl
                        have c1 := (HB5.out.box 5 _ _ rfl).cell 1 _ rfl
                        have c2 := (HB5.out.box 5 _ _ rfl).cell 2 _ rfl
                        have c3 := (HB5.out.box 5 _ _ rfl).cell 3 _ rfl
                        have c4 := (HB5.out.box 5 _ _ rfl).cell 4 _ rfl
                        have c5 := (HB5.out.box 5 _ _ rfl).cell 5 _ rfl
                        have c6 := (HB5.out.box 5 _ _ rfl).cell 6 _ rfl
                        have c7 := (HB5.out.box 5 _ _ rfl).cell 7 _ rfl
                        have c8 := (HB5.out.box 5 _ _ rfl).cell 8 _ rfl
                        have c9 := (HB5.out.box 5 _ _ rfl).cell 9 _ rfl
                        have c10 := (HB5.out.box 5 _ _ rfl).cell 10 _ rfl
                        have c11 := (HB5.out.box 5 _ _ rfl).cell 11 _ rfl
                        go_wp2_with fail
                        have HB7 := HB5.out
                        rw [HF.out] at HB7
                        go_roundg (4 - (3 + 1) + 1)
                        case measure => omega
                        case rel => exact ⟨4, k, rfl, by omega, by omega, by omega, HKN.out, HB7⟩
                    · have HU : Hid (upS (3 + 1) D y = B) := by rw [← HQ.out]; exact putS_self (hc.trans (by rw [HBj.out, HT.out]))
                      rw [← hm] at he
                      clear hc hm hfl
                      have cl := (HB3.out.box 5 _ _ rfl).lt
                      have c0 := (HB3.out.box 5 _ _ rfl).cell 0 _ rfl
                      have c1 := (HB3.out.box 5 _ _ rfl).cell 1 _ rfl
                      have c2 := (HB3.out.box 5 _ _ rfl).cell 2 _ rfl
                      have c3 := (HB3.out.box 5 _ _ rfl).cell 3 _ rfl
                      have c4 := (HB3.out.box 5 _ _ rfl).cell 4 _ rfl
                      have c5 := (HB3.out.box 5 _ _ rfl).cell 5 _ rfl
                      have c6 := (HB3.out.box 5 _ _ rfl).cell 6 _ rfl
                      have c7 := (HB3.out.box 5 _ _ rfl).cell 7 _ rfl
                      have c8 := (HB3.out.box 5 _ _ rfl).cell 8 _ rfl
                      have c9 := (HB3.out.box 5 _ _ rfl).cell 9 _ rfl
                      have c10 := (HB3.out.box 5 _ _ rfl).cell 10 _ rfl
                      have c11 := (HB3.out.box 5 _ _ rfl).cell 11 _ rfl
                      have el := (HB3.out.box 0 _ _ rfl).lt
                      have e0 := (HB3.out.box 0 _ _ rfl).cell 0 _ rfl
                      have e1 := (HB3.out.box 0 _ _ rfl).cell 1 _ rfl
                      have e2 := (HB3.out.box 0 _ _ rfl).cell 2 _ rfl
                      have e3 := (HB3.out.box 0 _ _ rfl).cell 3 _ rfl
                      have e4 := (HB3.out.box 0 _ _ rfl).cell 4 _ rfl
                      have e5 := (HB3.out.box 0 _ _ rfl).cell 5 _ rfl
                      have e6 := (HB3.out.box 0 _ _ rfl).cell 6 _ rfl
                      have e7 := (HB3.out.box 0 _ _ rfl).cell 7 _ rfl
                      have e8 := (HB3.out.box 0 _ _ rfl).cell 8 _ rfl
                      have e9 := (HB3.out.box 0 _ _ rfl).cell 9 _ rfl
                      have e10 := (HB3.out.box 0 _ _ rfl).cell 10 _ rfl
                      have e11 := (HB3.out.box 0 _ _ rfl).cell 11 _ rfl
                      go_big_quiet (fail)
                      go_upto_region 34 with (fail)
                      have HB5' := HB3.out.step (W' := w6.drewN nq) ⟨rfl, rfl, rfl, Nat.le_refl _, fun _ _ => rfl⟩
                      rw [← HU.out] at HB5'
                      clear he HB3
                      clear cl c0 c1 c2 c3 c4 c5 c6 c7 c8 c9 c10 c11
                      clear el e0 e1 e2 e3 e4 e5 e6 e7 e8 e9 e10 e11
                      obtain ⟨F, hF⟩ : ∃ F, F = upS (3 + 1) D y := ⟨_, rfl⟩
                      have hFj : F 3 = y 3 := by rw [hF]; exact if_pos (Nat.lt_succ_self _)
                      rw [← hF] at HB5'
                      have HB5 : Hid (Bxs w [(w.heap.size, [.int .i64 (t 0).m, .bool (t 0).f, .int .i64 (t 0).n, .int .i64 (t 1).m, .bool (t 1).f, .int .i64 (t 1).n, .int .i64 (t 2).m, .bool (t 2).f, .int .i64 (t 2).n, .int .i64 (t 3).m, .bool (t 3).f, .int .i64 (t 3).n]), (w.heap.size + 1, [.bool (o 0), .bool (o 1), .bool (o 2), .bool (o 3)]), (w.heap.size + 1 + 1, [.bool (f 0), .bool (f 1), .bool (f 2), .bool (f 3)]), (w.heap.size + 1 + 1 + 1, [.int .i64 0, .bool false, .int .i64 0, .int .i64 0, .bool false, .int .i64 0, .int .i64 0, .bool false, .int .i64 0, .int .i64 0, .bool false, .int .i64 0]), (w.heap.size + 1 + 1 + 1 + 1, [.int .i64 0, .int .i64 0, .bool false]), (w.heap.size + 1 + 1 + 1 + 1 + 1, [.int .i64 (F 0).m, .bool (F 0).f, .int .i64 (F 0).n, .int .i64 (F 1).m, .bool (F 1).f, .int .i64 (F 1).n, .int .i64 (F 2).m, .bool (F 2).f, .int .i64 (F 2).n, .int .i64 (F 3).m, .bool (F 3).f, .int .i64 (F 3).n]), (M, [.int .i64 q, .int .i64 k, .bool l])] _) := HB5'
                      have HF : Hid (F = upS (3 + 1) D y) := hF
                      clear HB5' hF
                      by_cases hm : (F 3).m = 1
                      · have HKN : Hid (acN y (3 + 1) = k + 1) := (acN_yes (by rw [← hFj]; exact hm)).trans (congrArg (· + 1) HK.out)
                        have hm1 : ((F 3).m == 1) = true := by simpa using hm
                        clear hm hFj
                        have cl := (HB5.out.box 5 _ _ rfl).lt
                        have c0 := (HB5.out.box 5 _ _ rfl).cell 0 _ rfl
                        have c1 := (HB5.out.box 5 _ _ rfl).cell 1 _ rfl
                        have c2 := (HB5.out.box 5 _ _ rfl).cell 2 _ rfl
                        have c3 := (HB5.out.box 5 _ _ rfl).cell 3 _ rfl
                        have c4 := (HB5.out.box 5 _ _ rfl).cell 4 _ rfl
                        have c5 := (HB5.out.box 5 _ _ rfl).cell 5 _ rfl
                        have c6 := (HB5.out.box 5 _ _ rfl).cell 6 _ rfl
                        have c7 := (HB5.out.box 5 _ _ rfl).cell 7 _ rfl
                        have c8 := (HB5.out.box 5 _ _ rfl).cell 8 _ rfl
                        have c9 := (HB5.out.box 5 _ _ rfl).cell 9 _ rfl
                        have c10 := (HB5.out.box 5 _ _ rfl).cell 10 _ rfl
                        have c11 := (HB5.out.box 5 _ _ rfl).cell 11 _ rfl
                        have dl := (HB5.out.box 6 _ _ rfl).lt
                        have d0 := (HB5.out.box 6 _ _ rfl).cell 0 _ rfl
                        have d1 := (HB5.out.box 6 _ _ rfl).cell 1 _ rfl
                        have d2 := (HB5.out.box 6 _ _ rfl).cell 2 _ rfl
                        have df0 := (HB5.out.box 6 _ _ rfl).froz 0 _ rfl
                        have df1 := (HB5.out.box 6 _ _ rfl).froz 1 _ rfl
                        have df2 := (HB5.out.box 6 _ _ rfl).froz 2 _ rfl
                        go_wp2_with fail
                        obtain ⟨w9, hw9, HB6⟩ := HB5.out.put1 6 M 1 _ (.int .i64 ((k : Int) + 1)) rfl (by simp)
                        rw [hw9]
                        have HB7 : Hid (Bxs w [(w.heap.size, [.int .i64 (t 0).m, .bool (t 0).f, .int .i64 (t 0).n, .int .i64 (t 1).m, .bool (t 1).f, .int .i64 (t 1).n, .int .i64 (t 2).m, .bool (t 2).f, .int .i64 (t 2).n, .int .i64 (t 3).m, .bool (t 3).f, .int .i64 (t 3).n]), (w.heap.size + 1, [.bool (o 0), .bool (o 1), .bool (o 2), .bool (o 3)]), (w.heap.size + 1 + 1, [.bool (f 0), .bool (f 1), .bool (f 2), .bool (f 3)]), (w.heap.size + 1 + 1 + 1, [.int .i64 0, .bool false, .int .i64 0, .int .i64 0, .bool false, .int .i64 0, .int .i64 0, .bool false, .int .i64 0, .int .i64 0, .bool false, .int .i64 0]), (w.heap.size + 1 + 1 + 1 + 1, [.int .i64 0, .int .i64 0, .bool false]), (w.heap.size + 1 + 1 + 1 + 1 + 1, [.int .i64 (F 0).m, .bool (F 0).f, .int .i64 (F 0).n, .int .i64 (F 1).m, .bool (F 1).f, .int .i64 (F 1).n, .int .i64 (F 2).m, .bool (F 2).f, .int .i64 (F 2).n, .int .i64 (F 3).m, .bool (F 3).f, .int .i64 (F 3).n]), (M, [.int .i64 q, .int .i64 ((k + 1 : Nat) : Int), .bool l])] w9) := HB6
                        clear hw9 HB6
                        rw [HF.out] at HB7
                        go_roundg (4 - (3 + 1) + 1)
                        case measure => omega
                        case rel => exact ⟨4, k + 1, rfl, by omega, by omega, by omega, HKN.out, HB7.out⟩
                      · have HKN : Hid (acN y (3 + 1) = k) := (acN_no (by rw [← hFj]; exact hm)).trans HK.out
                        have hm1 : ((F 3).m == 1) = false := by simpa using hm
                        clear hm hFj
                        have cl := (HB5.out.box 5 _ _ rfl).lt
                        have c0 := (HB5.out.box 5 _ _ rfl).cell 0 _ rfl
                        have c1 := (HB5.out.box 5 _ _ rfl).cell 1 _ rfl
                        have c2 := (HB5.out.box 5 _ _ rfl).cell 2 _ rfl
                        have c3 := (HB5.out.box 5 _ _ rfl).cell 3 _ rfl
                        have c4 := (HB5.out.box 5 _ _ rfl).cell 4 _ rfl
                        have c5 := (HB5.out.box 5 _ _ rfl).cell 5 _ rfl
                        have c6 := (HB5.out.box 5 _ _ rfl).cell 6 _ rfl
                        have c7 := (HB5.out.box 5 _ _ rfl).cell 7 _ rfl
                        have c8 := (HB5.out.box 5 _ _ rfl).cell 8 _ rfl
                        have c9 := (HB5.out.box 5 _ _ rfl).cell 9 _ rfl
                        have c10 := (HB5.out.box 5 _ _ rfl).cell 10 _ rfl
                        have c11 := (HB5.out.box 5 _ _ rfl).cell 11 _ rfl
                        go_wp2_with fail
                        have HB7 := HB5.out
                        rw [HF.out] at HB7
                        go_roundg (4 - (3 + 1) + 1)
                        case measure => omega
                        case rel => exact ⟨4, k, rfl, by omega, by omega, by omega, HKN.out, HB7⟩
                · obtain rfl : j = 4 := by omega
                  have hk4 := HK.out
                  clear HK
                  subst hk4
                  have HB1 : Hid (Bxs w [(w.heap.size, [.int .i64 (t 0).m, .bool (t 0).f, .int .i64 (t 0).n, .int .i64 (t 1).m, .bool (t 1).f, .int .i64 (t 1).n, .int .i64 (t 2).m, .bool (t 2).f, .int .i64 (t 2).n, .int .i64 (t 3).m, .bool (t 3).f, .int .i64 (t 3).n]), (w.heap.size + 1, [.bool (o 0), .bool (o 1), .bool (o 2), .bool (o 3)]), (w.heap.size + 1 + 1, [.bool (f 0), .bool (f 1), .bool (f 2), .bool (f 3)]), (w.heap.size + 1 + 1 + 1, [.int .i64 0, .bool false, .int .i64 0, .int .i64 0, .bool false, .int .i64 0, .int .i64 0, .bool false, .int .i64 0, .int .i64 0, .bool false, .int .i64 0]), (w.heap.size + 1 + 1 + 1 + 1, [.int .i64 0, .int .i64 0, .bool false]), (w.heap.size + 1 + 1 + 1 + 1 + 1, [.int .i64 (y 0).m, .bool (y 0).f, .int .i64 (y 0).n, .int .i64 (y 1).m, .bool (y 1).f, .int .i64 (y 1).n, .int .i64 (y 2).m, .bool (y 2).f, .int .i64 (y 2).n, .int .i64 (y 3).m, .bool (y 3).f, .int .i64 (y 3).n]), (M, [.int .i64 q, .int .i64 (acN y 4), .bool l])] wr) := by have := HB.out; rw [HZ.out] at this; exact this
                  clear HB HZ HT HN HY HI hlt hg hj hk
                  clear X
                  have xl := (HB1.out.box 5 _ _ rfl).lt
                  have x0 := (HB1.out.box 5 _ _ rfl).cell 0 _ rfl
                  have x1 := (HB1.out.box 5 _ _ rfl).cell 1 _ rfl
                  have x2 := (HB1.out.box 5 _ _ rfl).cell 2 _ rfl
                  have x3 := (HB1.out.box 5 _ _ rfl).cell 3 _ rfl
                  have x4 := (HB1.out.box 5 _ _ rfl).cell 4 _ rfl
                  have x5 := (HB1.out.box 5 _ _ rfl).cell 5 _ rfl
                  have x6 := (HB1.out.box 5 _ _ rfl).cell 6 _ rfl
                  have x7 := (HB1.out.box 5 _ _ rfl).cell 7 _ rfl
                  have x8 := (HB1.out.box 5 _ _ rfl).cell 8 _ rfl
                  have x9 := (HB1.out.box 5 _ _ rfl).cell 9 _ rfl
                  have x10 := (HB1.out.box 5 _ _ rfl).cell 10 _ rfl
                  have x11 := (HB1.out.box 5 _ _ rfl).cell 11 _ rfl
                  have zl := (HB1.out.box 6 _ _ rfl).lt
                  have z0 := (HB1.out.box 6 _ _ rfl).cell 0 _ rfl
                  have z1 := (HB1.out.box 6 _ _ rfl).cell 1 _ rfl
                  have z2 := (HB1.out.box 6 _ _ rfl).cell 2 _ rfl
                  have pl := (HB1.out.box 3 _ _ rfl).lt
                  have p0 := (HB1.out.box 3 _ _ rfl).cell 0 _ rfl
                  have p1 := (HB1.out.box 3 _ _ rfl).cell 1 _ rfl
                  have p2 := (HB1.out.box 3 _ _ rfl).cell 2 _ rfl
                  have p3 := (HB1.out.box 3 _ _ rfl).cell 3 _ rfl
                  have p4 := (HB1.out.box 3 _ _ rfl).cell 4 _ rfl
                  have p5 := (HB1.out.box 3 _ _ rfl).cell 5 _ rfl
                  have p6 := (HB1.out.box 3 _ _ rfl).cell 6 _ rfl
                  have p7 := (HB1.out.box 3 _ _ rfl).cell 7 _ rfl
                  have p8 := (HB1.out.box 3 _ _ rfl).cell 8 _ rfl
                  have p9 := (HB1.out.box 3 _ _ rfl).cell 9 _ rfl
                  have p10 := (HB1.out.box 3 _ _ rfl).cell 10 _ rfl
                  have p11 := (HB1.out.box 3 _ _ rfl).cell 11 _ rfl
                  have pf0 := (HB1.out.box 3 _ _ rfl).froz 0 _ rfl
                  have pf1 := (HB1.out.box 3 _ _ rfl).froz 1 _ rfl
                  have pf2 := (HB1.out.box 3 _ _ rfl).froz 2 _ rfl
                  have pf3 := (HB1.out.box 3 _ _ rfl).froz 3 _ rfl
                  have pf4 := (HB1.out.box 3 _ _ rfl).froz 4 _ rfl
                  have pf5 := (HB1.out.box 3 _ _ rfl).froz 5 _ rfl
                  have pf6 := (HB1.out.box 3 _ _ rfl).froz 6 _ rfl
                  have pf7 := (HB1.out.box 3 _ _ rfl).froz 7 _ rfl
                  have pf8 := (HB1.out.box 3 _ _ rfl).froz 8 _ rfl
                  have pf9 := (HB1.out.box 3 _ _ rfl).froz 9 _ rfl
                  have pf10 := (HB1.out.box 3 _ _ rfl).froz 10 _ rfl
                  have pf11 := (HB1.out.box 3 _ _ rfl).froz 11 _ rfl
                  have vl := (HB1.out.box 4 _ _ rfl).lt
                  have v0 := (HB1.out.box 4 _ _ rfl).cell 0 _ rfl
                  have v1 := (HB1.out.box 4 _ _ rfl).cell 1 _ rfl
                  have v2 := (HB1.out.box 4 _ _ rfl).cell 2 _ rfl
                  have vf0 := (HB1.out.box 4 _ _ rfl).froz 0 _ rfl
                  have vf1 := (HB1.out.box 4 _ _ rfl).froz 1 _ rfl
                  have vf2 := (HB1.out.box 4 _ _ rfl).froz 2 _ rfl
                  have h63 : ¬ M = w.heap.size + 1 + 1 + 1 := HB1.out.nd 6 3 _ _ _ _ rfl rfl (by omega)
                  have h64 : ¬ M = w.heap.size + 1 + 1 + 1 + 1 := HB1.out.nd 6 4 _ _ _ _ rfl rfl (by omega)
                  have g63 : ¬ w.heap.size + 1 + 1 + 1 = M := fun h => h63 h.symm
                  have g64 : ¬ w.heap.size + 1 + 1 + 1 + 1 = M := fun h => h64 h.symm
                  go_upto_region 37 with (fail)
                  go_region
                  all_goals (try go_wp2_with fail)
                  obtain ⟨w11, hw11, B11⟩ := HB1.out.team 3 _ _ y rfl rfl
                  rw [hw11]
                  obtain ⟨w12, hw12, B12⟩ := B11.put3 4 _ (.int .i64 q) (.int .i64 (acN y 4)) (.bool l) rfl
                  rw [hw12]
                  have B13 := B12.drew
                  generalize w12.drew = w13 at *
                  have yl := (B13.box 3 _ _ rfl).lt
                  have y0 := (B13.box 3 _ _ rfl).cell 0 _ rfl
                  have y1 := (B13.box 3 _ _ rfl).cell 1 _ rfl
                  have y2 := (B13.box 3 _ _ rfl).cell 2 _ rfl
                  have y3 := (B13.box 3 _ _ rfl).cell 3 _ rfl
                  have y4 := (B13.box 3 _ _ rfl).cell 4 _ rfl
                  have y5 := (B13.box 3 _ _ rfl).cell 5 _ rfl
                  have y6 := (B13.box 3 _ _ rfl).cell 6 _ rfl
                  have y7 := (B13.box 3 _ _ rfl).cell 7 _ rfl
                  have y8 := (B13.box 3 _ _ rfl).cell 8 _ rfl
                  have y9 := (B13.box 3 _ _ rfl).cell 9 _ rfl
                  have y10 := (B13.box 3 _ _ rfl).cell 10 _ rfl
                  have y11 := (B13.box 3 _ _ rfl).cell 11 _ rfl
                  have ul := (B13.box 4 _ _ rfl).lt
                  have u0 := (B13.box 4 _ _ rfl).cell 0 _ rfl
                  have u1 := (B13.box 4 _ _ rfl).cell 1 _ rfl
                  have u2 := (B13.box 4 _ _ rfl).cell 2 _ rfl
                  refine bodyPost_ret (by simp [results, Try.results15, go_sem, y0, y1, y2, y3, y4, y5, y6, y7, y8, y9, y10, y11, u0, u1, u2]; try rfl) rfl ?_
                  exact ⟨rfl, B13.bel⟩

end Go.Proofs.Ytnomceopmjlbhaa
