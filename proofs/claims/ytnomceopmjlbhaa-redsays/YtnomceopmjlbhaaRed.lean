/-
  Contracts of package red: after, Check, all, freed, struck. Of the memory that was there nothing turns.
-/
import Derived.Test.YtnomceopmjlbhaaLanAll
import Derived.Test.YtnomceopmjlbhaaBxs
import Derived.Deep.LoopGhost
import Derived.Deep.DeepCutAuto
import Derived.BigQuiet
import Derived.Handy
namespace Go.Proofs.Ytnomceopmjlbhaa
open Go.RowKit
set_option linter.unusedVariables false

/-- a lane's state -/
structure St where
  m : Int
  f : Bool
  n : Int
/-- what comes of a state and an event; what is wrong with a state -/
def nx (s : St) (e : Int) : St := ⟨nM s.m s.f e, nB s.f e, nF s.m (nM s.m s.f e) s.n⟩
def sE (s : St) : Int := lE s.m s.f s.n
theorem sE_next {s : St} {e : Int} (h : sE s = 0) (h1 : 1 ≤ e) (h2 : e ≤ 7) : sE (nx s e) = 0 := lE_next h h1 h2
/-- a team with another state of lane k; a team of which the first j are those of another one -/
def putS (A : Nat → St) (k : Nat) (s : St) (i : Nat) : St := if i = k then s else A i
def upS (j : Nat) (t u : Nat → St) (i : Nat) : St := if i < j then u i else t i
theorem putS_up (t u : Nat → St) (j : Nat) : putS (upS j t u) j (u j) = upS (j + 1) t u := by
  funext i
  unfold putS upS
  by_cases h : i = j
  · subst h
    rw [if_pos rfl, if_pos (Nat.lt_succ_self _)]
  · rw [if_neg h]
    by_cases q : i < j
    · rw [if_pos q, if_pos (by omega)]
    · rw [if_neg q, if_neg (by omega)]
theorem upS_same {t u : Nat → St} {j : Nat} (h : u j = t j) : upS (j + 1) t u = upS j t u := by
  funext i
  unfold upS
  by_cases e : i = j
  · subst e
    rw [if_pos (Nat.lt_succ_self _), if_neg (Nat.lt_irrefl _), h]
  · by_cases q : i < j
    · rw [if_pos q, if_pos (by omega)]
    · rw [if_neg q, if_neg (by omega)]
theorem cases4 {j : Nat} (h : j < 4) : j = 0 ∨ j = 1 ∨ j = 2 ∨ j = 3 := by omega
/-- a state stored into a team's box; a whole team stored into it -/
theorem Bxs.lane {w : World} {L : List (Nat × List Value)} {W : World} (h : Bxs w L W) (i b : Nat) (A : Nat → St) (hi : L[i]? = some (b, [.int .i64 (A 0).m, .bool (A 0).f, .int .i64 (A 0).n, .int .i64 (A 1).m, .bool (A 1).f, .int .i64 (A 1).n, .int .i64 (A 2).m, .bool (A 2).f, .int .i64 (A 2).n, .int .i64 (A 3).m, .bool (A 3).f, .int .i64 (A 3).n])) (k : Nat) (hk : k < 4) (o0 o1 o2 : Nat) (e0 : o0 = 3 * k) (e1 : o1 = 3 * k + 1) (e2 : o2 = 3 * k + 2) (s : St) :
    ∃ w3, (((W.setCell ⟨b, o0, none⟩ (.int .i64 s.m)).setCell ⟨b, o1, none⟩ (.bool s.f)).setCell ⟨b, o2, none⟩ (.int .i64 s.n)) = w3 ∧ Bxs w (L.set i (b, [.int .i64 ((putS A k s) 0).m, .bool ((putS A k s) 0).f, .int .i64 ((putS A k s) 0).n, .int .i64 ((putS A k s) 1).m, .bool ((putS A k s) 1).f, .int .i64 ((putS A k s) 1).n, .int .i64 ((putS A k s) 2).m, .bool ((putS A k s) 2).f, .int .i64 ((putS A k s) 2).n, .int .i64 ((putS A k s) 3).m, .bool ((putS A k s) 3).f, .int .i64 ((putS A k s) 3).n])) w3 := by
  subst e0 e1 e2
  refine ⟨_, rfl, ?_⟩
  have h1 := ((h.set i b (3 * k) _ (.int .i64 s.m) hi (by simp; omega)).again (j := 3 * k + 1) (.bool s.f) hi (by simp; omega)).again (j := 3 * k + 2) (.int .i64 s.n) hi (by simp; omega)
  obtain rfl | rfl | rfl | rfl := cases4 hk <;> exact h1
theorem Bxs.team {w : World} {L : List (Nat × List Value)} {W : World} (h : Bxs w L W) (i b : Nat) (vs : List Value) (A : Nat → St) (hi : L[i]? = some (b, vs)) (hv : vs.length = 12) :
    ∃ w3, ((((((((((((W.setCell ⟨b, 0, none⟩ (.int .i64 (A 0).m)).setCell ⟨b, 1, none⟩ (.bool (A 0).f)).setCell ⟨b, 2, none⟩ (.int .i64 (A 0).n)).setCell ⟨b, 3, none⟩ (.int .i64 (A 1).m)).setCell ⟨b, 4, none⟩ (.bool (A 1).f)).setCell ⟨b, 5, none⟩ (.int .i64 (A 1).n)).setCell ⟨b, 6, none⟩ (.int .i64 (A 2).m)).setCell ⟨b, 7, none⟩ (.bool (A 2).f)).setCell ⟨b, 8, none⟩ (.int .i64 (A 2).n)).setCell ⟨b, 9, none⟩ (.int .i64 (A 3).m)).setCell ⟨b, 10, none⟩ (.bool (A 3).f)).setCell ⟨b, 11, none⟩ (.int .i64 (A 3).n)) = w3 ∧ Bxs w (L.set i (b, [.int .i64 (A 0).m, .bool (A 0).f, .int .i64 (A 0).n, .int .i64 (A 1).m, .bool (A 1).f, .int .i64 (A 1).n, .int .i64 (A 2).m, .bool (A 2).f, .int .i64 (A 2).n, .int .i64 (A 3).m, .bool (A 3).f, .int .i64 (A 3).n])) w3 := by
  refine ⟨_, rfl, ?_⟩
  have h1 := (((((((((((h.set i b 0 vs (.int .i64 (A 0).m) hi (by omega)).again (j := 1) (.bool (A 0).f) hi (by simp; omega)).again (j := 2) (.int .i64 (A 0).n) hi (by simp; omega)).again (j := 3) (.int .i64 (A 1).m) hi (by simp; omega)).again (j := 4) (.bool (A 1).f) hi (by simp; omega)).again (j := 5) (.int .i64 (A 1).n) hi (by simp; omega)).again (j := 6) (.int .i64 (A 2).m) hi (by simp; omega)).again (j := 7) (.bool (A 2).f) hi (by simp; omega)).again (j := 8) (.int .i64 (A 2).n) hi (by simp; omega)).again (j := 9) (.int .i64 (A 3).m) hi (by simp; omega)).again (j := 10) (.bool (A 3).f) hi (by simp; omega)).again (j := 11) (.int .i64 (A 3).n) hi (by simp; omega)
  match vs, hv with
  | [_, _, _, _, _, _, _, _, _, _, _, _], _ => exact h1
/-- a lane of a team by its place -/
theorem ixT (t : Nat → St) : (∀ w : World, (Instr.index 25 (.agg #[.int .i64 (t 0).m, .bool (t 0).f, .int .i64 (t 0).n, .int .i64 (t 1).m, .bool (t 1).f, .int .i64 (t 1).n, .int .i64 (t 2).m, .bool (t 2).f, .int .i64 (t 2).n, .int .i64 (t 3).m, .bool (t 3).f, .int .i64 (t 3).n]) (.int .i64 0)).run Try.prog w = .ok (.agg #[.int .i64 (t 0).m, .bool (t 0).f, .int .i64 (t 0).n]) w) ∧ (∀ w : World, (Instr.index 25 (.agg #[.int .i64 (t 0).m, .bool (t 0).f, .int .i64 (t 0).n, .int .i64 (t 1).m, .bool (t 1).f, .int .i64 (t 1).n, .int .i64 (t 2).m, .bool (t 2).f, .int .i64 (t 2).n, .int .i64 (t 3).m, .bool (t 3).f, .int .i64 (t 3).n]) (.int .i64 1)).run Try.prog w = .ok (.agg #[.int .i64 (t 1).m, .bool (t 1).f, .int .i64 (t 1).n]) w) ∧ (∀ w : World, (Instr.index 25 (.agg #[.int .i64 (t 0).m, .bool (t 0).f, .int .i64 (t 0).n, .int .i64 (t 1).m, .bool (t 1).f, .int .i64 (t 1).n, .int .i64 (t 2).m, .bool (t 2).f, .int .i64 (t 2).n, .int .i64 (t 3).m, .bool (t 3).f, .int .i64 (t 3).n]) (.int .i64 2)).run Try.prog w = .ok (.agg #[.int .i64 (t 2).m, .bool (t 2).f, .int .i64 (t 2).n]) w) ∧ (∀ w : World, (Instr.index 25 (.agg #[.int .i64 (t 0).m, .bool (t 0).f, .int .i64 (t 0).n, .int .i64 (t 1).m, .bool (t 1).f, .int .i64 (t 1).n, .int .i64 (t 2).m, .bool (t 2).f, .int .i64 (t 2).n, .int .i64 (t 3).m, .bool (t 3).f, .int .i64 (t 3).n]) (.int .i64 3)).run Try.prog w = .ok (.agg #[.int .i64 (t 3).m, .bool (t 3).f, .int .i64 (t 3).n]) w) :=
  ⟨fun _ => by kernel_rfl, fun _ => by kernel_rfl, fun _ => by kernel_rfl, fun _ => by kernel_rfl⟩
theorem bxs_two (w : World) (a b : Array Value) (t1 t2 : TypeId) : Bxs w [(w.heap.size, a.toList), (w.heap.size + 1, b.toList)] ((w.alloc (.cells a t1)).alloc (.cells b t2)) := by
  have := ((bxs_nil w).push a t1).push b t2
  simp only [lay_size] at this
  exact this
theorem bxs_one1 (w : World) (a : Array Value) (t1 : TypeId) : Bxs w [(w.heap.size, a.toList)] (w.alloc (.cells a t1)) := (bxs_nil w).push a t1

set_option maxHeartbeats 4000000 in
theorem rafter_core (m : Int) (b : Bool) (n e m' : Int) (b' : Bool) (n' : Int) (w : World) (CN : Hid (∀ W, Calls Try.prog 28 #[.agg #[.int .i64 m, .bool b, .int .i64 n], .int .i64 e] W fun r w' => r = .returned (.tuple #[.agg #[.int .i64 m', .bool b', .int .i64 n'], .int .i64 0]) ∧ Below W.heap.size W w')) :
    Calls Try.prog 26 #[.agg #[.int .i64 m, .bool b, .int .i64 n], .int .i64 e] w fun r w' => r = .returned (.agg #[.int .i64 m', .bool b', .int .i64 n']) ∧ Below w.heap.size w w' := by
  have B0 : Hid (_) := bxs_two w #[.int .i64 m, .bool b, .int .i64 n] #[.int .i64 0, .bool false, .int .i64 0] 23 23
  go_enter Try.func26, Try.ntmps26
  go_wp2_with fail
  refine (CN.out _).mono ?_
  rintro r w1 ⟨rfl, hb⟩
  have B1 : Hid (_) := B0.out.step hb
  clear hb B0 CN
  have kl := (B1.out.box 1 _ _ rfl).lt
  have k0 := (B1.out.box 1 _ _ rfl).cell 0 _ rfl
  have k1 := (B1.out.box 1 _ _ rfl).cell 1 _ rfl
  have k2 := (B1.out.box 1 _ _ rfl).cell 2 _ rfl
  have kf0 := (B1.out.box 1 _ _ rfl).froz 0 _ rfl
  have kf1 := (B1.out.box 1 _ _ rfl).froz 1 _ rfl
  have kf2 := (B1.out.box 1 _ _ rfl).froz 2 _ rfl
  go_wp2_with fail
  obtain ⟨w3, hw3, B3⟩ := B1.out.put3 1 _ (.int .i64 m') (.bool b') (.int .i64 n') rfl
  rw [hw3]
  have B4 := B3.alloc (.cells #[.int .i64 m', .bool b', .int .i64 n'] 23)
  generalize w3.alloc (.cells #[.int .i64 m', .bool b', .int .i64 n'] 23) = w4 at *
  have yl := (B4.box 1 _ _ rfl).lt
  have y0 := (B4.box 1 _ _ rfl).cell 0 _ rfl
  have y1 := (B4.box 1 _ _ rfl).cell 1 _ rfl
  have y2 := (B4.box 1 _ _ rfl).cell 2 _ rfl
  refine bodyPost_ret (by simp [results, Try.results26, go_sem, y0, y1, y2]; try rfl) rfl ?_
  exact ⟨rfl, B4.bel⟩
theorem rafter_any (s : St) (e : Int) (h : sE s = 0) (h1 : 1 ≤ e) (h2 : e ≤ 7) (w : World) : Calls Try.prog 26 #[.agg #[.int .i64 s.m, .bool s.f, .int .i64 s.n], .int .i64 e] w fun r w' => r = .returned (.agg #[.int .i64 (nx s e).m, .bool (nx s e).f, .int .i64 (nx s e).n]) ∧ Below w.heap.size w w' :=
  rafter_core _ _ _ _ _ _ _ w fun W => next_ok s.m s.f s.n e W h h1 h2

/-- the first error of four -/
def frE (E : Nat → Int) : Int := if E 0 ≠ 0 then E 0 else if E 1 ≠ 0 then E 1 else if E 2 ≠ 0 then E 2 else E 3
theorem frE_at {E : Nat → Int} {j : Nat} (hj : j < 4) (h : ∀ i, i < j → E i = 0) (e : ¬ E j = 0) : frE E = E j := by
  unfold frE
  obtain rfl | rfl | rfl | rfl := cases4 hj
  · rw [if_pos e]
  · rw [if_neg (by simp [h 0 (by omega)]), if_pos e]
  · rw [if_neg (by simp [h 0 (by omega)]), if_neg (by simp [h 1 (by omega)]), if_pos e]
  · rw [if_neg (by simp [h 0 (by omega)]), if_neg (by simp [h 1 (by omega)]), if_neg (by simp [h 2 (by omega)])]
theorem frE_none {E : Nat → Int} (h : ∀ i, i < 4 → E i = 0) : frE E = 0 := by
  unfold frE
  rw [if_neg (by simp [h 0 (by omega)]), if_neg (by simp [h 1 (by omega)]), if_neg (by simp [h 2 (by omega)]), h 3 (by omega)]
theorem upTo_next {E : Nat → Int} {j : Nat} (h : ∀ i, i < j → E i = 0) (e : E j = 0) : ∀ i, i < j + 1 → E i = 0 := fun i hi => by
  by_cases q : i = j
  · subst q; exact e
  · exact h i (by omega)

set_option maxHeartbeats 8000000 in
theorem rcheck_core (t : Nat → St) (E : Nat → Int) (w : World) (HC : Hid (∀ j, j < 4 → ∀ W, Calls Try.prog 17 #[.agg #[.int .i64 (t j).m, .bool (t j).f, .int .i64 (t j).n]] W fun r w' => r = .returned (.int .i64 (E j)) ∧ Below W.heap.size W w')) (HE : Hid (∀ j, j < 4 → E j = 0 ∨ E j = 1 ∨ E j = 4)) :
    Calls Try.prog 11 #[.agg #[.int .i64 (t 0).m, .bool (t 0).f, .int .i64 (t 0).n, .int .i64 (t 1).m, .bool (t 1).f, .int .i64 (t 1).n, .int .i64 (t 2).m, .bool (t 2).f, .int .i64 (t 2).n, .int .i64 (t 3).m, .bool (t 3).f, .int .i64 (t 3).n]] w fun r w' => r = .returned (.int .i64 (frE E)) ∧ Below w.heap.size w w' := by
  have B0 : Hid (_) := bxs_one1 w #[.int .i64 (t 0).m, .bool (t 0).f, .int .i64 (t 0).n, .int .i64 (t 1).m, .bool (t 1).f, .int .i64 (t 1).n, .int .i64 (t 2).m, .bool (t 2).f, .int .i64 (t 2).n, .int .i64 (t 3).m, .bool (t 3).f, .int .i64 (t 3).n] 25
  obtain ⟨i0, i1, i2, i3⟩ := ixT t
  go_enter Try.func11, Try.ntmps11
  go_wp2_with fail
  go_loopg [7] (5) (fun g s wr => ∃ j : Nat, s = .int .i64 j ∧ 4 - j < g ∧ j ≤ 4 ∧ Hid (∀ i, i < j → E i = 0) ∧ Hid (Below w.heap.size w wr))
  case atStart => exact ⟨0, rfl, by omega, by omega, fun i hi => absurd hi (by omega), B0.out.bel⟩
  case round =>
    obtain ⟨j, rfl, hg, hj, HZ, HB⟩ := hrel
    clear B0
    by_cases hlt : j < 4
    · obtain rfl | rfl | rfl | rfl := cases4 hlt
      · have CK : Hid (_) := HC.out 0 (by omega)
        go_wp2_with fail
        refine (CK.out _).mono ?_
        rintro r w5 ⟨rfl, hb⟩
        have HB2 : Hid (Below w.heap.size w w5) := below_seq (HB.out.alloc HB.out.size _) hb
        clear hb HB CK
        rcases HE.out 0 (by omega) with he | he | he
        · have HN : Hid (_) := upTo_next HZ.out he
          rw [he]
          clear he
          go_wp2_with fail
          go_roundg (4 - (0 + 1) + 1)
          case measure => omega
          case rel => exact ⟨1, rfl, by omega, by omega, HN.out, HB2.out⟩
        · have HN : Hid (frE E = 1) := (frE_at (j := 0) (by omega) HZ.out (by omega)).trans he
          rw [he]
          clear he
          go_wp2_with fail
          go_returns
          exact ⟨by rw [HN.out]; rfl, HB2.out⟩
        · have HN : Hid (frE E = 4) := (frE_at (j := 0) (by omega) HZ.out (by omega)).trans he
          rw [he]
          clear he
          go_wp2_with fail
          go_returns
          exact ⟨by rw [HN.out]; rfl, HB2.out⟩
      · have CK : Hid (_) := HC.out 1 (by omega)
        go_wp2_with fail
        refine (CK.out _).mono ?_
        rintro r w5 ⟨rfl, hb⟩
        have HB2 : Hid (Below w.heap.size w w5) := below_seq (HB.out.alloc HB.out.size _) hb
        clear hb HB CK
        rcases HE.out 1 (by omega) with he | he | he
        · have HN : Hid (_) := upTo_next HZ.out he
          rw [he]
          clear he
          go_wp2_with fail
          go_roundg (4 - (1 + 1) + 1)
          case measure => omega
          case rel => exact ⟨2, rfl, by omega, by omega, HN.out, HB2.out⟩
        · have HN : Hid (frE E = 1) := (frE_at (j := 1) (by omega) HZ.out (by omega)).trans he
          rw [he]
          clear he
          go_wp2_with fail
          go_returns
          exact ⟨by rw [HN.out]; rfl, HB2.out⟩
        · have HN : Hid (frE E = 4) := (frE_at (j := 1) (by omega) HZ.out (by omega)).trans he
          rw [he]
          clear he
          go_wp2_with fail
          go_returns
          exact ⟨by rw [HN.out]; rfl, HB2.out⟩
      · have CK : Hid (_) := HC.out 2 (by omega)
        go_wp2_with fail
        refine (CK.out _).mono ?_
        rintro r w5 ⟨rfl, hb⟩
        have HB2 : Hid (Below w.heap.size w w5) := below_seq (HB.out.alloc HB.out.size _) hb
        clear hb HB CK
        rcases HE.out 2 (by omega) with he | he | he
        · have HN : Hid (_) := upTo_next HZ.out he
          rw [he]
          clear he
          go_wp2_with fail
          go_roundg (4 - (2 + 1) + 1)
          case measure => omega
          case rel => exact ⟨3, rfl, by omega, by omega, HN.out, HB2.out⟩
        · have HN : Hid (frE E = 1) := (frE_at (j := 2) (by omega) HZ.out (by omega)).trans he
          rw [he]
          clear he
          go_wp2_with fail
          go_returns
          exact ⟨by rw [HN.out]; rfl, HB2.out⟩
        · have HN : Hid (frE E = 4) := (frE_at (j := 2) (by omega) HZ.out (by omega)).trans he
          rw [he]
          clear he
          go_wp2_with fail
          go_returns
          exact ⟨by rw [HN.out]; rfl, HB2.out⟩
      · have CK : Hid (_) := HC.out 3 (by omega)
        go_wp2_with fail
        refine (CK.out _).mono ?_
        rintro r w5 ⟨rfl, hb⟩
        have HB2 : Hid (Below w.heap.size w w5) := below_seq (HB.out.alloc HB.out.size _) hb
        clear hb HB CK
        rcases HE.out 3 (by omega) with he | he | he
        · have HN : Hid (_) := upTo_next HZ.out he
          rw [he]
          clear he
          go_wp2_with fail
          go_roundg (4 - (3 + 1) + 1)
          case measure => omega
          case rel => exact ⟨4, rfl, by omega, by omega, HN.out, HB2.out⟩
        · have HN : Hid (frE E = 1) := (frE_at (j := 3) (by omega) HZ.out (by omega)).trans he
          rw [he]
          clear he
          go_wp2_with fail
          go_returns
          exact ⟨by rw [HN.out]; rfl, HB2.out⟩
        · have HN : Hid (frE E = 4) := (frE_at (j := 3) (by omega) HZ.out (by omega)).trans he
          rw [he]
          clear he
          go_wp2_with fail
          go_returns
          exact ⟨by rw [HN.out]; rfl, HB2.out⟩
    · obtain rfl : j = 4 := by omega
      go_wp2_with fail
      go_returns
      exact ⟨by rw [frE_none HZ.out]; rfl, HB.out⟩
/-- what is wrong with a team -/
def teE (t : Nat → St) : Int := frE fun j => sE (t j)
theorem rcheck_any (t : Nat → St) (w : World) : Calls Try.prog 11 #[.agg #[.int .i64 (t 0).m, .bool (t 0).f, .int .i64 (t 0).n, .int .i64 (t 1).m, .bool (t 1).f, .int .i64 (t 1).n, .int .i64 (t 2).m, .bool (t 2).f, .int .i64 (t 2).n, .int .i64 (t 3).m, .bool (t 3).f, .int .i64 (t 3).n]] w fun r w' => r = .returned (.int .i64 (teE t)) ∧ Below w.heap.size w w' :=
  rcheck_core t (fun j => sE (t j)) w (fun j _ W => lcheck_any (t j).m (t j).f (t j).n W) (fun j _ => by
    rcases lE_cases (t j).m (t j).f (t j).n with h | h | h
    · exact Or.inr (Or.inl h)
    · exact Or.inr (Or.inr h)
    · exact Or.inl h)

set_option maxHeartbeats 8000000 in
set_option maxRecDepth 100000 in
theorem rall_core (t u : Nat → St) (e : Int) (w : World) (HC : Hid (∀ j, j < 4 → ∀ W, Calls Try.prog 26 #[.agg #[.int .i64 (t j).m, .bool (t j).f, .int .i64 (t j).n], .int .i64 e] W fun r w' => r = .returned (.agg #[.int .i64 (u j).m, .bool (u j).f, .int .i64 (u j).n]) ∧ Below W.heap.size W w')) :
    Calls Try.prog 21 #[.agg #[.int .i64 (t 0).m, .bool (t 0).f, .int .i64 (t 0).n, .int .i64 (t 1).m, .bool (t 1).f, .int .i64 (t 1).n, .int .i64 (t 2).m, .bool (t 2).f, .int .i64 (t 2).n, .int .i64 (t 3).m, .bool (t 3).f, .int .i64 (t 3).n], .int .i64 e] w fun r w' => r = .returned (.agg #[.int .i64 (u 0).m, .bool (u 0).f, .int .i64 (u 0).n, .int .i64 (u 1).m, .bool (u 1).f, .int .i64 (u 1).n, .int .i64 (u 2).m, .bool (u 2).f, .int .i64 (u 2).n, .int .i64 (u 3).m, .bool (u 3).f, .int .i64 (u 3).n]) ∧ Below w.heap.size w w' := by
  have B0 : Hid (Bxs w [(w.heap.size, [.int .i64 ((upS 0 t u) 0).m, .bool ((upS 0 t u) 0).f, .int .i64 ((upS 0 t u) 0).n, .int .i64 ((upS 0 t u) 1).m, .bool ((upS 0 t u) 1).f, .int .i64 ((upS 0 t u) 1).n, .int .i64 ((upS 0 t u) 2).m, .bool ((upS 0 t u) 2).f, .int .i64 ((upS 0 t u) 2).n, .int .i64 ((upS 0 t u) 3).m, .bool ((upS 0 t u) 3).f, .int .i64 ((upS 0 t u) 3).n]), (w.heap.size + 1, [.int .i64 0, .bool false, .int .i64 0, .int .i64 0, .bool false, .int .i64 0, .int .i64 0, .bool false, .int .i64 0, .int .i64 0, .bool false, .int .i64 0])] _) := bxs_two w #[.int .i64 (t 0).m, .bool (t 0).f, .int .i64 (t 0).n, .int .i64 (t 1).m, .bool (t 1).f, .int .i64 (t 1).n, .int .i64 (t 2).m, .bool (t 2).f, .int .i64 (t 2).n, .int .i64 (t 3).m, .bool (t 3).f, .int .i64 (t 3).n] #[.int .i64 0, .bool false, .int .i64 0, .int .i64 0, .bool false, .int .i64 0, .int .i64 0, .bool false, .int .i64 0, .int .i64 0, .bool false, .int .i64 0] 25 25
  obtain ⟨i0, i1, i2, i3⟩ := ixT t
  go_enter Try.func21, Try.ntmps21
  go_wp2_with fail
  go_loopg [8] (5) (fun g s wr => ∃ j : Nat, s = .int .i64 j ∧ 4 - j < g ∧ j ≤ 4 ∧ Hid (Bxs w [(w.heap.size, [.int .i64 ((upS j t u) 0).m, .bool ((upS j t u) 0).f, .int .i64 ((upS j t u) 0).n, .int .i64 ((upS j t u) 1).m, .bool ((upS j t u) 1).f, .int .i64 ((upS j t u) 1).n, .int .i64 ((upS j t u) 2).m, .bool ((upS j t u) 2).f, .int .i64 ((upS j t u) 2).n, .int .i64 ((upS j t u) 3).m, .bool ((upS j t u) 3).f, .int .i64 ((upS j t u) 3).n]), (w.heap.size + 1, [.int .i64 0, .bool false, .int .i64 0, .int .i64 0, .bool false, .int .i64 0, .int .i64 0, .bool false, .int .i64 0, .int .i64 0, .bool false, .int .i64 0])] wr))
  case atStart => exact ⟨0, rfl, by omega, by omega, B0⟩
  case round =>
    obtain ⟨j, rfl, hg, hj, HB⟩ := hrel
    clear B0
    by_cases hlt : j < 4
    · obtain rfl | rfl | rfl | rfl := cases4 hlt
      · have CK : Hid (_) := HC.out 0 (by omega)
        go_wp2_with fail
        refine (CK.out _).mono ?_
        rintro r w5 ⟨rfl, hb⟩
        have HB2 : Hid (_) := (HB.out.alloc _).step hb
        clear hb HB CK
        have cl := (HB2.out.box 0 _ _ rfl).lt
        have c0 := (HB2.out.box 0 _ _ rfl).cell 0 _ rfl
        have c1 := (HB2.out.box 0 _ _ rfl).cell 1 _ rfl
        have c2 := (HB2.out.box 0 _ _ rfl).cell 2 _ rfl
        have c3 := (HB2.out.box 0 _ _ rfl).cell 3 _ rfl
        have c4 := (HB2.out.box 0 _ _ rfl).cell 4 _ rfl
        have c5 := (HB2.out.box 0 _ _ rfl).cell 5 _ rfl
        have c6 := (HB2.out.box 0 _ _ rfl).cell 6 _ rfl
        have c7 := (HB2.out.box 0 _ _ rfl).cell 7 _ rfl
        have c8 := (HB2.out.box 0 _ _ rfl).cell 8 _ rfl
        have c9 := (HB2.out.box 0 _ _ rfl).cell 9 _ rfl
        have c10 := (HB2.out.box 0 _ _ rfl).cell 10 _ rfl
        have c11 := (HB2.out.box 0 _ _ rfl).cell 11 _ rfl
        have cf0 := (HB2.out.box 0 _ _ rfl).froz 0 _ rfl
        have cf1 := (HB2.out.box 0 _ _ rfl).froz 1 _ rfl
        have cf2 := (HB2.out.box 0 _ _ rfl).froz 2 _ rfl
        have cf3 := (HB2.out.box 0 _ _ rfl).froz 3 _ rfl
        have cf4 := (HB2.out.box 0 _ _ rfl).froz 4 _ rfl
        have cf5 := (HB2.out.box 0 _ _ rfl).froz 5 _ rfl
        have cf6 := (HB2.out.box 0 _ _ rfl).froz 6 _ rfl
        have cf7 := (HB2.out.box 0 _ _ rfl).froz 7 _ rfl
        have cf8 := (HB2.out.box 0 _ _ rfl).froz 8 _ rfl
        have cf9 := (HB2.out.box 0 _ _ rfl).froz 9 _ rfl
        have cf10 := (HB2.out.box 0 _ _ rfl).froz 10 _ rfl
        have cf11 := (HB2.out.box 0 _ _ rfl).froz 11 _ rfl
        go_wp2_with fail
        obtain ⟨w6, hw6, HB3⟩ := HB2.out.lane 0 _ (upS 0 t u) rfl 0 (by omega) 0 1 2 rfl rfl rfl (u 0)
        rw [hw6]
        rw [putS_up] at HB3
        clear hw6
        go_roundg (4 - (0 + 1) + 1)
        case measure => omega
        case rel => exact ⟨1, rfl, by omega, by omega, HB3⟩
      · have CK : Hid (_) := HC.out 1 (by omega)
        go_wp2_with fail
        refine (CK.out _).mono ?_
        rintro r w5 ⟨rfl, hb⟩
        have HB2 : Hid (_) := (HB.out.alloc _).step hb
        clear hb HB CK
        have cl := (HB2.out.box 0 _ _ rfl).lt
        have c0 := (HB2.out.box 0 _ _ rfl).cell 0 _ rfl
        have c1 := (HB2.out.box 0 _ _ rfl).cell 1 _ rfl
        have c2 := (HB2.out.box 0 _ _ rfl).cell 2 _ rfl
        have c3 := (HB2.out.box 0 _ _ rfl).cell 3 _ rfl
        have c4 := (HB2.out.box 0 _ _ rfl).cell 4 _ rfl
        have c5 := (HB2.out.box 0 _ _ rfl).cell 5 _ rfl
        have c6 := (HB2.out.box 0 _ _ rfl).cell 6 _ rfl
        have c7 := (HB2.out.box 0 _ _ rfl).cell 7 _ rfl
        have c8 := (HB2.out.box 0 _ _ rfl).cell 8 _ rfl
        have c9 := (HB2.out.box 0 _ _ rfl).cell 9 _ rfl
        have c10 := (HB2.out.box 0 _ _ rfl).cell 10 _ rfl
        have c11 := (HB2.out.box 0 _ _ rfl).cell 11 _ rfl
        have cf0 := (HB2.out.box 0 _ _ rfl).froz 0 _ rfl
        have cf1 := (HB2.out.box 0 _ _ rfl).froz 1 _ rfl
        have cf2 := (HB2.out.box 0 _ _ rfl).froz 2 _ rfl
        have cf3 := (HB2.out.box 0 _ _ rfl).froz 3 _ rfl
        have cf4 := (HB2.out.box 0 _ _ rfl).froz 4 _ rfl
        have cf5 := (HB2.out.box 0 _ _ rfl).froz 5 _ rfl
        have cf6 := (HB2.out.box 0 _ _ rfl).froz 6 _ rfl
        have cf7 := (HB2.out.box 0 _ _ rfl).froz 7 _ rfl
        have cf8 := (HB2.out.box 0 _ _ rfl).froz 8 _ rfl
        have cf9 := (HB2.out.box 0 _ _ rfl).froz 9 _ rfl
        have cf10 := (HB2.out.box 0 _ _ rfl).froz 10 _ rfl
        have cf11 := (HB2.out.box 0 _ _ rfl).froz 11 _ rfl
        go_wp2_with fail
        obtain ⟨w6, hw6, HB3⟩ := HB2.out.lane 0 _ (upS 1 t u) rfl 1 (by omega) 3 4 5 rfl rfl rfl (u 1)
        rw [hw6]
        rw [putS_up] at HB3
        clear hw6
        go_roundg (4 - (1 + 1) + 1)
        case measure => omega
        case rel => exact ⟨2, rfl, by omega, by omega, HB3⟩
      · have CK : Hid (_) := HC.out 2 (by omega)
        go_wp2_with fail
        refine (CK.out _).mono ?_
        rintro r w5 ⟨rfl, hb⟩
        have HB2 : Hid (_) := (HB.out.alloc _).step hb
        clear hb HB CK
        have cl := (HB2.out.box 0 _ _ rfl).lt
        have c0 := (HB2.out.box 0 _ _ rfl).cell 0 _ rfl
        have c1 := (HB2.out.box 0 _ _ rfl).cell 1 _ rfl
        have c2 := (HB2.out.box 0 _ _ rfl).cell 2 _ rfl
        have c3 := (HB2.out.box 0 _ _ rfl).cell 3 _ rfl
        have c4 := (HB2.out.box 0 _ _ rfl).cell 4 _ rfl
        have c5 := (HB2.out.box 0 _ _ rfl).cell 5 _ rfl
        have c6 := (HB2.out.box 0 _ _ rfl).cell 6 _ rfl
        have c7 := (HB2.out.box 0 _ _ rfl).cell 7 _ rfl
        have c8 := (HB2.out.box 0 _ _ rfl).cell 8 _ rfl
        have c9 := (HB2.out.box 0 _ _ rfl).cell 9 _ rfl
        have c10 := (HB2.out.box 0 _ _ rfl).cell 10 _ rfl
        have c11 := (HB2.out.box 0 _ _ rfl).cell 11 _ rfl
        have cf0 := (HB2.out.box 0 _ _ rfl).froz 0 _ rfl
        have cf1 := (HB2.out.box 0 _ _ rfl).froz 1 _ rfl
        have cf2 := (HB2.out.box 0 _ _ rfl).froz 2 _ rfl
        have cf3 := (HB2.out.box 0 _ _ rfl).froz 3 _ rfl
        have cf4 := (HB2.out.box 0 _ _ rfl).froz 4 _ rfl
        have cf5 := (HB2.out.box 0 _ _ rfl).froz 5 _ rfl
        have cf6 := (HB2.out.box 0 _ _ rfl).froz 6 _ rfl
        have cf7 := (HB2.out.box 0 _ _ rfl).froz 7 _ rfl
        have cf8 := (HB2.out.box 0 _ _ rfl).froz 8 _ rfl
        have cf9 := (HB2.out.box 0 _ _ rfl).froz 9 _ rfl
        have cf10 := (HB2.out.box 0 _ _ rfl).froz 10 _ rfl
        have cf11 := (HB2.out.box 0 _ _ rfl).froz 11 _ rfl
        go_wp2_with fail
        obtain ⟨w6, hw6, HB3⟩ := HB2.out.lane 0 _ (upS 2 t u) rfl 2 (by omega) 6 7 8 rfl rfl rfl (u 2)
        rw [hw6]
        rw [putS_up] at HB3
        clear hw6
        go_roundg (4 - (2 + 1) + 1)
        case measure => omega
        case rel => exact ⟨3, rfl, by omega, by omega, HB3⟩
      · have CK : Hid (_) := HC.out 3 (by omega)
        go_wp2_with fail
        refine (CK.out _).mono ?_
        rintro r w5 ⟨rfl, hb⟩
        have HB2 : Hid (_) := (HB.out.alloc _).step hb
        clear hb HB CK
        have cl := (HB2.out.box 0 _ _ rfl).lt
        have c0 := (HB2.out.box 0 _ _ rfl).cell 0 _ rfl
        have c1 := (HB2.out.box 0 _ _ rfl).cell 1 _ rfl
        have c2 := (HB2.out.box 0 _ _ rfl).cell 2 _ rfl
        have c3 := (HB2.out.box 0 _ _ rfl).cell 3 _ rfl
        have c4 := (HB2.out.box 0 _ _ rfl).cell 4 _ rfl
        have c5 := (HB2.out.box 0 _ _ rfl).cell 5 _ rfl
        have c6 := (HB2.out.box 0 _ _ rfl).cell 6 _ rfl
        have c7 := (HB2.out.box 0 _ _ rfl).cell 7 _ rfl
        have c8 := (HB2.out.box 0 _ _ rfl).cell 8 _ rfl
        have c9 := (HB2.out.box 0 _ _ rfl).cell 9 _ rfl
        have c10 := (HB2.out.box 0 _ _ rfl).cell 10 _ rfl
        have c11 := (HB2.out.box 0 _ _ rfl).cell 11 _ rfl
        have cf0 := (HB2.out.box 0 _ _ rfl).froz 0 _ rfl
        have cf1 := (HB2.out.box 0 _ _ rfl).froz 1 _ rfl
        have cf2 := (HB2.out.box 0 _ _ rfl).froz 2 _ rfl
        have cf3 := (HB2.out.box 0 _ _ rfl).froz 3 _ rfl
        have cf4 := (HB2.out.box 0 _ _ rfl).froz 4 _ rfl
        have cf5 := (HB2.out.box 0 _ _ rfl).froz 5 _ rfl
        have cf6 := (HB2.out.box 0 _ _ rfl).froz 6 _ rfl
        have cf7 := (HB2.out.box 0 _ _ rfl).froz 7 _ rfl
        have cf8 := (HB2.out.box 0 _ _ rfl).froz 8 _ rfl
        have cf9 := (HB2.out.box 0 _ _ rfl).froz 9 _ rfl
        have cf10 := (HB2.out.box 0 _ _ rfl).froz 10 _ rfl
        have cf11 := (HB2.out.box 0 _ _ rfl).froz 11 _ rfl
        go_wp2_with fail
        obtain ⟨w6, hw6, HB3⟩ := HB2.out.lane 0 _ (upS 3 t u) rfl 3 (by omega) 9 10 11 rfl rfl rfl (u 3)
        rw [hw6]
        rw [putS_up] at HB3
        clear hw6
        go_roundg (4 - (3 + 1) + 1)
        case measure => omega
        case rel => exact ⟨4, rfl, by omega, by omega, HB3⟩
    · obtain rfl : j = 4 := by omega
      have cl := (HB.out.box 0 _ _ rfl).lt
      have c0 := (HB.out.box 0 _ _ rfl).cell 0 _ rfl
      have c1 := (HB.out.box 0 _ _ rfl).cell 1 _ rfl
      have c2 := (HB.out.box 0 _ _ rfl).cell 2 _ rfl
      have c3 := (HB.out.box 0 _ _ rfl).cell 3 _ rfl
      have c4 := (HB.out.box 0 _ _ rfl).cell 4 _ rfl
      have c5 := (HB.out.box 0 _ _ rfl).cell 5 _ rfl
      have c6 := (HB.out.box 0 _ _ rfl).cell 6 _ rfl
      have c7 := (HB.out.box 0 _ _ rfl).cell 7 _ rfl
      have c8 := (HB.out.box 0 _ _ rfl).cell 8 _ rfl
      have c9 := (HB.out.box 0 _ _ rfl).cell 9 _ rfl
      have c10 := (HB.out.box 0 _ _ rfl).cell 10 _ rfl
      have c11 := (HB.out.box 0 _ _ rfl).cell 11 _ rfl
      have dl := (HB.out.box 1 _ _ rfl).lt
      have d0 := (HB.out.box 1 _ _ rfl).cell 0 _ rfl
      have d1 := (HB.out.box 1 _ _ rfl).cell 1 _ rfl
      have d2 := (HB.out.box 1 _ _ rfl).cell 2 _ rfl
      have d3 := (HB.out.box 1 _ _ rfl).cell 3 _ rfl
      have d4 := (HB.out.box 1 _ _ rfl).cell 4 _ rfl
      have d5 := (HB.out.box 1 _ _ rfl).cell 5 _ rfl
      have d6 := (HB.out.box 1 _ _ rfl).cell 6 _ rfl
      have d7 := (HB.out.box 1 _ _ rfl).cell 7 _ rfl
      have d8 := (HB.out.box 1 _ _ rfl).cell 8 _ rfl
      have d9 := (HB.out.box 1 _ _ rfl).cell 9 _ rfl
      have d10 := (HB.out.box 1 _ _ rfl).cell 10 _ rfl
      have d11 := (HB.out.box 1 _ _ rfl).cell 11 _ rfl
      have df0 := (HB.out.box 1 _ _ rfl).froz 0 _ rfl
      have df1 := (HB.out.box 1 _ _ rfl).froz 1 _ rfl
      have df2 := (HB.out.box 1 _ _ rfl).froz 2 _ rfl
      have df3 := (HB.out.box 1 _ _ rfl).froz 3 _ rfl
      have df4 := (HB.out.box 1 _ _ rfl).froz 4 _ rfl
      have df5 := (HB.out.box 1 _ _ rfl).froz 5 _ rfl
      have df6 := (HB.out.box 1 _ _ rfl).froz 6 _ rfl
      have df7 := (HB.out.box 1 _ _ rfl).froz 7 _ rfl
      have df8 := (HB.out.box 1 _ _ rfl).froz 8 _ rfl
      have df9 := (HB.out.box 1 _ _ rfl).froz 9 _ rfl
      have df10 := (HB.out.box 1 _ _ rfl).froz 10 _ rfl
      have df11 := (HB.out.box 1 _ _ rfl).froz 11 _ rfl
      go_wp2_with fail
      obtain ⟨w6, hw6, HB3⟩ := HB.out.team 1 _ _ (upS 4 t u) rfl rfl
      rw [hw6]
      have yl := (HB3.box 1 _ _ rfl).lt
      have y0 := (HB3.box 1 _ _ rfl).cell 0 _ rfl
      have y1 := (HB3.box 1 _ _ rfl).cell 1 _ rfl
      have y2 := (HB3.box 1 _ _ rfl).cell 2 _ rfl
      have y3 := (HB3.box 1 _ _ rfl).cell 3 _ rfl
      have y4 := (HB3.box 1 _ _ rfl).cell 4 _ rfl
      have y5 := (HB3.box 1 _ _ rfl).cell 5 _ rfl
      have y6 := (HB3.box 1 _ _ rfl).cell 6 _ rfl
      have y7 := (HB3.box 1 _ _ rfl).cell 7 _ rfl
      have y8 := (HB3.box 1 _ _ rfl).cell 8 _ rfl
      have y9 := (HB3.box 1 _ _ rfl).cell 9 _ rfl
      have y10 := (HB3.box 1 _ _ rfl).cell 10 _ rfl
      have y11 := (HB3.box 1 _ _ rfl).cell 11 _ rfl
      refine bodyPost_ret (by simp [results, Try.results21, go_sem, y0, y1, y2, y3, y4, y5, y6, y7, y8, y9, y10, y11]; try rfl) rfl ?_
      exact ⟨rfl, HB3.bel⟩

end Go.Proofs.Ytnomceopmjlbhaa
