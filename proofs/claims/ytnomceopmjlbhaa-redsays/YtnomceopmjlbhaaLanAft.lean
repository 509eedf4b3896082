/-
  lane.after: what comes of a right state and an event, by what the map tells.
-/
import Derived.Test.YtnomceopmjlbhaaLan
namespace Go.Proofs.Ytnomceopmjlbhaa
open Go.RowKit
set_option linter.unusedVariables false

set_option maxHeartbeats 4000000 in
theorem after_no (m : Int) (b : Bool) (n e : Int) (B c : Nat) (D : DataW Unit) (w : World) (HO : Hid (w.ownsMap Try.prog 60 RL B c D))
    (HL : Hid (∀ W : World, W.ownsMap Try.prog 60 RL B c D → (Instr.lookup 56 (.map (some B)) (.agg #[.int .i64 m, .bool b, .int .i64 0, .int .i64 e]) true).run Try.prog W = .ok (.tuple #[.agg #[.int .i64 0, .bool false, .int .i64 0], .bool false]) W)) :
    Calls Try.prog 30 #[.agg #[.int .i64 m, .bool b, .int .i64 n], .int .i64 e, .map (some B)] w fun r w' => r = .returned (.agg #[.int .i64 m, .bool b, .int .i64 n]) ∧ Below w.heap.size w w' := by
  go_enter Try.func30, Try.ntmps30
  go_wp2_with (first
    | (at_lookup; refine wpList_lookup_run _ rfl _ _ 56 rfl _ _ rfl rfl _ (HL.out _ ((HO.out.alloc _).alloc _)) ?_)
    | go_in)
  go_returns
  refine ⟨by simp [*], ?_⟩
  repeat' first | exact Below.refl _ _ | (refine Below.setCell ?_ (by first | (simp; done) | (simp; omega)) _) | (refine Below.alloc ?_ (by first | (simp; done) | (simp; omega)) _)

set_option maxHeartbeats 4000000 in
theorem after_same (m : Int) (b : Bool) (n e : Int) (b' : Bool) (B c : Nat) (D : DataW Unit) (w : World) (HO : Hid (w.ownsMap Try.prog 60 RL B c D))
    (HL : Hid (∀ W : World, W.ownsMap Try.prog 60 RL B c D → (Instr.lookup 56 (.map (some B)) (.agg #[.int .i64 m, .bool b, .int .i64 0, .int .i64 e]) true).run Try.prog W = .ok (.tuple #[.agg #[.int .i64 m, .bool b', .int .i64 0], .bool true]) W)) :
    Calls Try.prog 30 #[.agg #[.int .i64 m, .bool b, .int .i64 n], .int .i64 e, .map (some B)] w fun r w' => r = .returned (.agg #[.int .i64 m, .bool b', .int .i64 n]) ∧ Below w.heap.size w w' := by
  go_enter Try.func30, Try.ntmps30
  go_wp2_with (first
    | (at_lookup; refine wpList_lookup_run _ rfl _ _ 56 rfl _ _ rfl rfl _ (HL.out _ ((HO.out.alloc _).alloc _)) ?_)
    | go_in)
  go_returns
  refine ⟨by simp [*], ?_⟩
  repeat' first | exact Below.refl _ _ | (refine Below.setCell ?_ (by first | (simp; done) | (simp; omega)) _) | (refine Below.alloc ?_ (by first | (simp; done) | (simp; omega)) _)

set_option maxHeartbeats 4000000 in
theorem after_new (m : Int) (b : Bool) (n e m' : Int) (b' : Bool) (B c : Nat) (D : DataW Unit) (w : World) (hm : m' ≠ m) (HO : Hid (w.ownsMap Try.prog 60 RL B c D))
    (HL : Hid (∀ W : World, W.ownsMap Try.prog 60 RL B c D → (Instr.lookup 56 (.map (some B)) (.agg #[.int .i64 m, .bool b, .int .i64 0, .int .i64 e]) true).run Try.prog W = .ok (.tuple #[.agg #[.int .i64 m', .bool b', .int .i64 0], .bool true]) W)) :
    Calls Try.prog 30 #[.agg #[.int .i64 m, .bool b, .int .i64 n], .int .i64 e, .map (some B)] w fun r w' => r = .returned (.agg #[.int .i64 m', .bool b', .int .i64 0]) ∧ Below w.heap.size w w' := by
  go_enter Try.func30, Try.ntmps30
  go_wp2_with (first
    | (at_lookup; refine wpList_lookup_run _ rfl _ _ 56 rfl _ _ rfl rfl _ (HL.out _ ((HO.out.alloc _).alloc _)) ?_)
    | go_in)
  go_returns
  refine ⟨by simp [*], ?_⟩
  repeat' first | exact Below.refl _ _ | (refine Below.setCell ?_ (by first | (simp; done) | (simp; omega)) _) | (refine Below.alloc ?_ (by first | (simp; done) | (simp; omega)) _)

/-- what the map tells of a right state and an event is what the document says -/
theorem chg_is {x : Int × Bool × Int} (hx : x ∈ combos) : match chg x with | some y => y = (nM x.1 x.2.1 x.2.2, nB x.2.1 x.2.2) | none => (x.1, x.2.1) = (nM x.1 x.2.1 x.2.2, nB x.2.1 x.2.2) := by
  have h1 : combos.all (fun x => match chg x with | some y => y == (nM x.1 x.2.1 x.2.2, nB x.2.1 x.2.2) | none => (x.1, x.2.1) == (nM x.1 x.2.1 x.2.2, nB x.2.1 x.2.2)) = true := by decide +kernel
  have h2 := List.all_eq_true.1 h1 x hx
  cases hc : chg x with
  | none => rw [hc] at h2; simpa using h2
  | some y => rw [hc] at h2; simpa using h2

theorem after_any (m : Int) (b : Bool) (n e : Int) (B c : Nat) (D : DataW Unit) (w : World) (hx : (m, b, e) ∈ combos) (hT : Tb D) (HO : w.ownsMap Try.prog 60 RL B c D) :
    Calls Try.prog 30 #[.agg #[.int .i64 m, .bool b, .int .i64 n], .int .i64 e, .map (some B)] w fun r w' => r = .returned (.agg #[.int .i64 (nM m b e), .bool (nB b e), .int .i64 (nF m (nM m b e) n)]) ∧ Below w.heap.size w w' := by
  have hc := chg_is hx
  cases hg : chg (m, b, e) with
  | none =>
    rw [hg] at hc
    simp only [Prod.mk.injEq] at hc
    rw [← hc.1, ← hc.2, show nF m m n = n from if_pos rfl]
    exact after_no m b n e B c D w HO fun W hW => look_no hT hx hg W hW
  | some y =>
    rw [hg] at hc
    simp only at hc
    by_cases hm : y.1 = m
    · have h1 : nM m b e = m := by rw [hc] at hm; exact hm
      have h2 : nB b e = y.2 := by rw [hc]
      rw [h1, h2, show nF m m n = n from if_pos rfl]
      exact after_same m b n e y.2 B c D w HO fun W hW => by have := look_yes hT hx hg W hW; rw [hm] at this; exact this
    · have h1 : nM m b e = y.1 := by rw [hc]
      have h2 : nB b e = y.2 := by rw [hc]
      rw [h1, h2, show nF m y.1 n = 0 from if_neg hm]
      exact after_new m b n e y.1 y.2 B c D w hm HO fun W hW => look_yes hT hx hg W hW

end Go.Proofs.Ytnomceopmjlbhaa
