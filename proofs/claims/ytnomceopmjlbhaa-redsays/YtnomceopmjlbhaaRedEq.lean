/-
  '==' of two teams that are alike; slices.Equal and slices.Index of rows of lanes' numbers.
-/
import Derived.Test.YtnomceopmjlbhaaRedArm
import Derived.ChangeKeysEq
import Derived.Laws.StructEq
namespace Go.Proofs.Ytnomceopmjlbhaa
open Go.RowKit
set_option linter.unusedVariables false

/-- four lanes, four bools by their place -/
def tq (a b c d : St) (j : Nat) : St := if j = 0 then a else if j = 1 then b else if j = 2 then c else d
def bq (a b c d : Bool) (j : Nat) : Bool := if j = 0 then a else if j = 1 then b else if j = 2 then c else d
/-- two boxes more, one behind the other: the block and the world behind them under letters -/
theorem Bxs.newTwo {w : World} {L : List (Nat × List Value)} {W : World} (h : Bxs w L W) (a b : Array Value) (t1 t2 : TypeId) : ∃ N W', (W.alloc (.cells a t1)).alloc (.cells b t2) = W' ∧ W.heap.size = N ∧ Bxs w (L ++ [(N, a.toList)] ++ [(N + 1, b.toList)]) W' ∧ N + 1 < W'.heap.size := by
  refine ⟨_, _, rfl, rfl, ?_, by simp⟩
  have := (h.push a t1).push b t2
  rw [lay_size] at this
  exact this

theorem Bxs.newThree {w : World} {L : List (Nat × List Value)} {W : World} (h : Bxs w L W) (a b c : Array Value) (t1 t2 t3 : TypeId) : ∃ N W', ((W.alloc (.cells a t1)).alloc (.cells b t2)).alloc (.cells c t3) = W' ∧ W.heap.size = N ∧ Bxs w (L ++ [(N, a.toList)] ++ [(N + 1, b.toList)] ++ [(N + 1 + 1, c.toList)]) W' ∧ N + 1 + 1 < W'.heap.size := by
  refine ⟨_, _, rfl, rfl, ?_, by simp⟩
  have := ((h.push a t1).push b t2).push c t3
  simp only [lay_size] at this
  exact this
/-- without the last one -/
theorem bxs_front {w W : World} {L : List (Nat × List Value)} {p : Nat × List Value} (h : Bxs w (L ++ [p]) W) : Bxs w L W := by
  have k : ∀ (i : Nat) (x : Nat × List Value), L[i]? = some x → (L ++ [p])[i]? = some x := fun i x hi => by
    rw [List.getElem?_append_left (List.getElem?_eq_some_iff.1 hi).1]
    exact hi
  exact ⟨h.bel, fun i b vs hi => h.box i b vs (k i _ hi), fun i b vs hi => h.own i b vs (k i _ hi), fun i j b c vs us hi hj => h.nd i j b c vs us (k i _ hi) (k j _ hj)⟩

set_option maxHeartbeats 2000000 in
theorem eqT (t : Nat → St) (w : World) : (Op.equalIn 10000 25 (.agg #[.int .i64 (t 0).m, .bool (t 0).f, .int .i64 (t 0).n, .int .i64 (t 1).m, .bool (t 1).f, .int .i64 (t 1).n, .int .i64 (t 2).m, .bool (t 2).f, .int .i64 (t 2).n, .int .i64 (t 3).m, .bool (t 3).f, .int .i64 (t 3).n]) (.agg #[.int .i64 (t 0).m, .bool (t 0).f, .int .i64 (t 0).n, .int .i64 (t 1).m, .bool (t 1).f, .int .i64 (t 1).n, .int .i64 (t 2).m, .bool (t 2).f, .int .i64 (t 2).n, .int .i64 (t 3).m, .bool (t 3).f, .int .i64 (t 3).n])).run Try.prog w = .ok true w := by
  obtain ⟨i, hi⟩ : ∃ i, Try.prog.info? 23 = some i := by
    cases h : Try.prog.info? 23 with
    | none => exact absurd (congrArg Option.isSome h) (by rw [show (Try.prog.info? 23).isSome = true from by kernel_rfl]; decide)
    | some i => exact ⟨i, rfl⟩
  rw [show (10000 : Nat) = 9999 + 1 from rfl, run_equalIn_array w 9999 _ _ Try.underlying25 hi]
  rw [show List.range 4 = [0, 1, 2, 3] from rfl, show Try.prog.cellsOf 23 = 3 from by kernel_rfl]
  simp [Op.eqItems, go_sem]

set_option maxHeartbeats 2000000 in
theorem equalI_same (a1 a2 : Option Addr) (n c1 c2 : Nat) (U : Nat → Nat) (w : World) (hn : n ≤ 4) (h1 : RI w a1 n U) (h2 : RI w a2 n U) :
    Calls Try.prog 12 #[.slice a1 n c1, .slice a2 n c2] w fun e w' => e = .returned (.bool true) ∧ Below w.heap.size w w' := by
  have H1 : Hid (RI w a1 n U) := h1
  have H2 : Hid (RI w a2 n U) := h2
  clear h1 h2
  go_enter Try.func12, Try.ntmps12
  go_wp2_with fail
  go_loopg [13] (n + 1) (fun g s wr => ∃ q : Nat, s = .int .i64 q ∧ n - q < g ∧ q ≤ n ∧ Hid (Below w.heap.size w wr))
  case atStart => exact ⟨0, rfl, by omega, by omega, Below.refl _ _⟩
  case round =>
    obtain ⟨q, rfl, hg, hq, HB⟩ := hrel
    by_cases hlt : q < n
    · have z1 : (q : Int) < (n : Int) := by omega
      obtain ⟨b1, o1, rfl, l1, k1⟩ := H1.out (by omega)
      obtain ⟨b2, o2, rfl, l2, k2⟩ := H2.out (by omega)
      have x0 := (HB.out.cell (p := ⟨b1, o1 + q, none⟩) l1).trans (k1 q hlt)
      have x1 := (HB.out.cell (p := ⟨b2, o2 + q, none⟩) l2).trans (k2 q hlt)
      clear k1 k2
      generalize U q = y at x0 x1
      go_wp2_with fail
      go_quiet (fail)
      go_wp2_with fail
      go_roundg (n - (q + 1) + 1)
      case measure => omega
      case rel => exact ⟨q + 1, by go_num, by omega, by omega, HB.out.trans ⟨rfl, rfl, rfl, Nat.le_refl _, fun _ _ => rfl⟩⟩
    · have z1 : ¬ (q : Int) < (n : Int) := by omega
      go_wp2_with fail
      go_ret
      exact ⟨rfl, HB.out⟩

/-- the place of a lane's number among those there are, or none -/
def Ix (U : Nat → Nat) (n : Nat) (x : Nat) (k : Int) : Prop := (∃ q : Nat, k = q ∧ q < n ∧ U q = x ∧ ∀ p, p < q → ¬ U p = x) ∨ (k = -1 ∧ ∀ p, p < n → ¬ U p = x)
set_option maxHeartbeats 2000000 in
theorem indexI_any (a : Option Addr) (n c : Nat) (U : Nat → Nat) (x : Nat) (k : Int) (w : World) (hn : n ≤ 4) (h : RI w a n U) (hk : Ix U n x k) :
    Calls Try.prog 18 #[.slice a n c, .int .i64 x] w fun e w' => e = .returned (.int .i64 k) ∧ Below w.heap.size w w' := by
  have H : Hid (RI w a n U) := h
  have HK : Hid (Ix U n x k) := hk
  clear h hk
  go_enter Try.func18, Try.ntmps18
  go_wp2_with fail
  go_loopg [8] (n + 1) (fun g s wr => ∃ q : Nat, s = .int .i64 q ∧ n - q < g ∧ q ≤ n ∧ Hid (∀ p, p < q → ¬ U p = x) ∧ wr = w)
  case atStart => exact ⟨0, rfl, by omega, by omega, fun i hi => absurd hi (by omega), rfl⟩
  case round =>
    obtain ⟨q, rfl, hg, hq, HQ, rfl⟩ := hrel
    by_cases hlt : q < n
    · have z1 : (q : Int) < (n : Int) := by omega
      obtain ⟨b1, o1, rfl, l1, k1⟩ := H.out (by omega)
      have x0 := k1 q hlt
      clear k1
      by_cases e : U q = x
      · have hkq : k = (q : Int) := by
          rcases HK.out with ⟨q', rfl, h1, h2, h3⟩ | ⟨_, h3⟩
          · rcases Nat.lt_trichotomy q q' with g | g | g
            · exact absurd e (h3 q g)
            · rw [g]
            · exact absurd h2 (HQ.out q' g)
          · exact absurd e (h3 q hlt)
        subst hkq
        rw [e] at x0
        clear e
        go_wp2_with fail
        go_ret
        exact ⟨rfl, Below.refl _ _⟩
      · have E1 : Hid (∀ p, p < q + 1 → ¬ U p = x) := fun i hi => by
          by_cases ei : i = q
          · subst ei; exact e
          · exact HQ.out i (by omega)
        have e2 : ((x : Int) == ((U q : Nat) : Int)) = false := by simp; omega
        clear e
        generalize ((U q : Nat) : Int) = y at x0 e2
        go_wp2_with fail
        go_roundg (n - (q + 1) + 1)
        case measure => omega
        case rel => exact ⟨q + 1, by go_num, by omega, by omega, E1, rfl⟩
    · have hk1 : k = -1 := by
        rcases HK.out with ⟨q', rfl, h1, h2, h3⟩ | ⟨h3, _⟩
        · exact absurd h2 (HQ.out q' (by omega))
        · exact h3
      subst hk1
      have z1 : ¬ (q : Int) < (n : Int) := by omega
      go_wp2_with fail
      go_ret
      exact ⟨rfl, Below.refl _ _⟩

end Go.Proofs.Ytnomceopmjlbhaa
