/-
  Contracts of package oil: Step and Source, whatever is handed in. Of the memory that was there nothing turns.
-/
import Derived.Test.YtebfjlgmljfnlaaFilt
import Derived.Test.YtebfjlgmljfnlaaLay
import Derived.Deep.RegionHeld3
import Derived.Deep.DeepCutAuto
import Derived.Deep.LoopGhost
import Derived.BigQuiet
import Derived.Handy
namespace Go.Proofs.Ytebfjlgmljfnlaa
open Go.RowKit
set_option linter.unusedVariables false

/-- the bounds are right -/
def OkO (h l : Int) : Prop := 0 ≤ l ∧ l ≤ h
/-- the first j of some bools, and false behind -/
def upB (j i : Nat) (x : Bool) : Bool := if i < j then x else false
theorem Lay.put4 {w : World} {L : List (List Value)} {W : World} (h : Lay w L W) (i b : Nat) {a0 a1 a2 a3 : Value} (v0 v1 v2 v3 : Value) (e : b = w.heap.size + i) (hi : L[i]? = some [a0, a1, a2, a3]) :
    ∃ w3, ((((W.setCell ⟨b, 0, none⟩ v0).setCell ⟨b, 1, none⟩ v1).setCell ⟨b, 2, none⟩ v2).setCell ⟨b, 3, none⟩ v3) = w3 ∧ Lay w (L.set i [v0, v1, v2, v3]) w3 :=
  ⟨_, rfl, (((h.set i b 0 [a0, a1, a2, a3] v0 e hi (by simp)).again (j := 1) v1 e hi (by simp)).again (j := 2) v2 e hi (by simp)).again (j := 3) v3 e hi (by simp)⟩

set_option maxHeartbeats 2000000 in
theorem oilStep_bad (a b : Bool) (p q h l : Int) (w : World) (ho : ¬ OkO h l) : Calls Try.prog 5 #[.agg #[.bool a, .bool b], .agg #[.int .i32 p, .int .i32 q], .int .i32 h, .int .i32 l] w fun e w' => e = .returned (.tuple #[.agg #[.bool false, .bool false], .int .i64 1]) ∧ Below w.heap.size w w' := by
  by_cases h1 : l < 0
  · clear ho
    go_enter Try.func5, Try.ntmps5
    go_wp2_with fail
    go_returns
    exact ⟨rfl, by go_grown⟩
  · have h2 : h < l := by
      by_cases q : h < l
      · exact q
      · exact absurd ⟨by omega, by omega⟩ ho
    clear ho
    go_enter Try.func5, Try.ntmps5
    go_wp2_with fail
    go_returns
    exact ⟨rfl, by go_grown⟩

theorem cases2 {j : Nat} (h : j < 2) : j = 0 ∨ j = 1 := by omega

set_option maxHeartbeats 4000000 in
set_option maxRecDepth 100000 in
theorem oilStep_ok (a b : Bool) (p q h l : Int) (w : World) (ho : OkO h l) : Calls Try.prog 5 #[.agg #[.bool a, .bool b], .agg #[.int .i32 p, .int .i32 q], .int .i32 h, .int .i32 l] w fun e w' => e = .returned (.tuple #[.agg #[.bool (tripB a p h l), .bool (tripB b q h l)], .int .i64 0]) ∧ Below w.heap.size w w' := by
  have h1 : ¬ l < 0 := by have := ho.1; omega
  have h2 : ¬ h < l := by have := ho.2; omega
  have B0 : Hid (_) := lay4 w #[.bool a, .bool b] #[.int .i32 p, .int .i32 q] #[.bool false, .bool false] #[.bool false, .bool false] 22 23 22 22
  have CA : Hid (_) := fun W => trip_any a p h l W
  have CB : Hid (_) := fun W => trip_any b q h l W
  generalize tripB a p h l = A at *
  generalize tripB b q h l = B at *
  clear ho
  go_enter Try.func5, Try.ntmps5
  go_wp2_with fail
  clear h1 h2
  go_loopg [20] (3) (fun g s wr => ∃ j : Nat, s = .int .i64 j ∧ 2 - j < g ∧ j ≤ 2 ∧ Hid (Lay w [[.bool a, .bool b], [.int .i32 p, .int .i32 q], [.bool false, .bool false], [.bool (upB j 0 A), .bool (upB j 1 B)]] wr))
  case atStart => exact ⟨0, rfl, by omega, by omega, B0⟩
  case round =>
    obtain ⟨j, rfl, hg, hj, HB⟩ := hrel
    clear B0
    by_cases hlt : j < 2
    · obtain rfl | rfl := cases2 hlt
      · skip
        have cl := (HB.out.blk 0 (w.heap.size) _ rfl rfl).lt
        have c0 := (HB.out.blk 0 (w.heap.size) _ rfl rfl).cell 0 _ rfl
        have c1 := (HB.out.blk 0 (w.heap.size) _ rfl rfl).cell 1 _ rfl
        have dl := (HB.out.blk 1 (w.heap.size + 1) _ rfl rfl).lt
        have d0 := (HB.out.blk 1 (w.heap.size + 1) _ rfl rfl).cell 0 _ rfl
        have d1 := (HB.out.blk 1 (w.heap.size + 1) _ rfl rfl).cell 1 _ rfl
        have nl := (HB.out.blk 3 (w.heap.size + 1 + 1 + 1) _ rfl rfl).lt
        have n0 := (HB.out.blk 3 (w.heap.size + 1 + 1 + 1) _ rfl rfl).cell 0 _ rfl
        have n1 := (HB.out.blk 3 (w.heap.size + 1 + 1 + 1) _ rfl rfl).cell 1 _ rfl
        have nf0 := (HB.out.blk 3 (w.heap.size + 1 + 1 + 1) _ rfl rfl).froz 0 _ rfl
        have nf1 := (HB.out.blk 3 (w.heap.size + 1 + 1 + 1) _ rfl rfl).froz 1 _ rfl
        go_wp2_with fail
        have HX := (HB.out.set 3 (w.heap.size + 1 + 1 + 1) 0 _ (.bool A) rfl rfl (by simp)).drew
        have HX0 : (wr.setCell ⟨w.heap.size + 1 + 1 + 1, 0, none⟩ (.bool A)).drew.cell? ⟨w.heap.size, 0, none⟩ = some (.bool a) := (HX.blk 0 (w.heap.size) _ rfl rfl).cell 0 _ rfl
        have HX1 : (wr.setCell ⟨w.heap.size + 1 + 1 + 1, 0, none⟩ (.bool A)).drew.cell? ⟨w.heap.size + 1, 0, none⟩ = some (.int .i32 p) := (HX.blk 1 (w.heap.size + 1) _ rfl rfl).cell 0 _ rfl
        clear HX
        go_region_held3 (fun w' => w'.cell? ⟨w.heap.size, 0, none⟩ = some (.bool a) ∧ w'.cell? ⟨w.heap.size + 1, 0, none⟩ = some (.int .i32 p)) (go_keep) (first | (go_at_call 11; refine (CA.out _).mono ?_; rintro r w5 ⟨rfl, rfl⟩))
        all_goals (try go_wp2_with fail)
        all_goals go_roundg (2 - (0 + 1) + 1)
        case measure => omega
        case rel => exact ⟨1, rfl, by omega, by omega, HB.out.drew.set 3 (w.heap.size + 1 + 1 + 1) 0 _ (.bool A) rfl rfl (by simp)⟩
      · skip
        have cl := (HB.out.blk 0 (w.heap.size) _ rfl rfl).lt
        have c0 := (HB.out.blk 0 (w.heap.size) _ rfl rfl).cell 0 _ rfl
        have c1 := (HB.out.blk 0 (w.heap.size) _ rfl rfl).cell 1 _ rfl
        have dl := (HB.out.blk 1 (w.heap.size + 1) _ rfl rfl).lt
        have d0 := (HB.out.blk 1 (w.heap.size + 1) _ rfl rfl).cell 0 _ rfl
        have d1 := (HB.out.blk 1 (w.heap.size + 1) _ rfl rfl).cell 1 _ rfl
        have nl := (HB.out.blk 3 (w.heap.size + 1 + 1 + 1) _ rfl rfl).lt
        have n0 := (HB.out.blk 3 (w.heap.size + 1 + 1 + 1) _ rfl rfl).cell 0 _ rfl
        have n1 := (HB.out.blk 3 (w.heap.size + 1 + 1 + 1) _ rfl rfl).cell 1 _ rfl
        have nf0 := (HB.out.blk 3 (w.heap.size + 1 + 1 + 1) _ rfl rfl).froz 0 _ rfl
        have nf1 := (HB.out.blk 3 (w.heap.size + 1 + 1 + 1) _ rfl rfl).froz 1 _ rfl
        go_wp2_with fail
        have HX := (HB.out.set 3 (w.heap.size + 1 + 1 + 1) 1 _ (.bool B) rfl rfl (by simp)).drew
        have HX0 : (wr.setCell ⟨w.heap.size + 1 + 1 + 1, 1, none⟩ (.bool B)).drew.cell? ⟨w.heap.size, 1, none⟩ = some (.bool b) := (HX.blk 0 (w.heap.size) _ rfl rfl).cell 1 _ rfl
        have HX1 : (wr.setCell ⟨w.heap.size + 1 + 1 + 1, 1, none⟩ (.bool B)).drew.cell? ⟨w.heap.size + 1, 1, none⟩ = some (.int .i32 q) := (HX.blk 1 (w.heap.size + 1) _ rfl rfl).cell 1 _ rfl
        clear HX
        go_region_held3 (fun w' => w'.cell? ⟨w.heap.size, 1, none⟩ = some (.bool b) ∧ w'.cell? ⟨w.heap.size + 1, 1, none⟩ = some (.int .i32 q)) (go_keep) (first | (go_at_call 11; refine (CB.out _).mono ?_; rintro r w5 ⟨rfl, rfl⟩))
        all_goals (try go_wp2_with fail)
        all_goals go_roundg (2 - (1 + 1) + 1)
        case measure => omega
        case rel => exact ⟨2, rfl, by omega, by omega, HB.out.drew.set 3 (w.heap.size + 1 + 1 + 1) 1 _ (.bool B) rfl rfl (by simp)⟩
    · obtain rfl : j = 2 := by omega
      have xl := (HB.out.blk 2 (w.heap.size + 1 + 1) _ rfl rfl).lt
      have x0 := (HB.out.blk 2 (w.heap.size + 1 + 1) _ rfl rfl).cell 0 _ rfl
      have x1 := (HB.out.blk 2 (w.heap.size + 1 + 1) _ rfl rfl).cell 1 _ rfl
      have xf0 := (HB.out.blk 2 (w.heap.size + 1 + 1) _ rfl rfl).froz 0 _ rfl
      have xf1 := (HB.out.blk 2 (w.heap.size + 1 + 1) _ rfl rfl).froz 1 _ rfl
      have nl := (HB.out.blk 3 (w.heap.size + 1 + 1 + 1) _ rfl rfl).lt
      have n0 := (HB.out.blk 3 (w.heap.size + 1 + 1 + 1) _ rfl rfl).cell 0 _ rfl
      have n1 := (HB.out.blk 3 (w.heap.size + 1 + 1 + 1) _ rfl rfl).cell 1 _ rfl
      go_wp2_with fail
      obtain ⟨w3, hw3, B3⟩ := HB.out.put2 2 (w.heap.size + 1 + 1) (.bool A) (.bool B) rfl rfl
      first | rw [hw3] | erw [hw3]
      have y0 := (B3.blk 2 (w.heap.size + 1 + 1) _ rfl rfl).cell 0 _ rfl
      have y1 := (B3.blk 2 (w.heap.size + 1 + 1) _ rfl rfl).cell 1 _ rfl
      refine bodyPost_ret (by simp [results, Try.results5, go_sem, y0, y1]; try rfl) rfl ?_
      exact ⟨rfl, B3.bel⟩

/-- which system a lane hangs on; whether it can go over -/
theorem ownSys_any (k n : Int) (w : World) (h : (k = 0 ∧ n = 0) ∨ (k = 1 ∧ n = 0) ∨ (k = 2 ∧ n = 1) ∨ (k = 3 ∧ n = 1)) : Calls Try.prog 12 #[.int .i64 k] w fun e w' => e = .returned (.int .i64 n) ∧ w' = w := by
  obtain ⟨rfl, rfl⟩ | ⟨rfl, rfl⟩ | ⟨rfl, rfl⟩ | ⟨rfl, rfl⟩ := h <;>
    (go_enter Try.func12, Try.ntmps12
     go_wp2_with fail
     go_ret
     exact ⟨rfl, rfl⟩)
theorem goes_any (k : Int) (n : Bool) (w : World) (h : (k = 0 ∧ n = false) ∨ (k = 1 ∧ n = true) ∨ (k = 2 ∧ n = false) ∨ (k = 3 ∧ n = true)) : Calls Try.prog 13 #[.int .i64 k] w fun e w' => e = .returned (.bool n) ∧ w' = w := by
  obtain ⟨rfl, rfl⟩ | ⟨rfl, rfl⟩ | ⟨rfl, rfl⟩ | ⟨rfl, rfl⟩ := h <;>
    (go_enter Try.func13, Try.ntmps13
     go_wp2_with fail
     go_ret
     exact ⟨rfl, rfl⟩)

/-- the source of a lane (0 where it has none); whether it has one; the error that says so -/
def srcN (a b : Bool) (k : Nat) : Int := if k = 0 then 0 else if k = 1 then (if a then 0 else if b then 1 else 0) else if b then 1 else 0
def srcB (a b : Bool) (k : Nat) : Bool := if k = 0 then a else if k = 2 then b else (a || b)
def srcE (a b : Bool) (k : Nat) : Int := if srcB a b k then 0 else 7

set_option maxHeartbeats 2000000 in
theorem source_bad (a b : Bool) (k : Int) (w : World) (h : k < 0 ∨ 3 < k) : Calls Try.prog 6 #[.agg #[.bool a, .bool b], .int .i64 k] w fun e w' => e = .returned (.tuple #[.int .i64 0, .int .i64 1]) ∧ Below w.heap.size w w' := by
  by_cases h1 : k < 0
  · clear h
    go_enter Try.func6, Try.ntmps6
    go_wp2_with fail
    go_returns
    exact ⟨rfl, by go_grown⟩
  · have h2 : 4 ≤ k := by omega
    clear h
    go_enter Try.func6, Try.ntmps6
    go_wp2_with fail
    go_returns
    exact ⟨rfl, by go_grown⟩

set_option maxHeartbeats 8000000 in
theorem source_0 (a b : Bool) (w : World) : Calls Try.prog 6 #[.agg #[.bool a, .bool b], .int .i64 0] w fun e w' => e = .returned (.tuple #[.int .i64 (srcN a b 0), .int .i64 (srcE a b 0)]) ∧ Below w.heap.size w w' := by
  cases a <;> cases b <;>
    (go_enter Try.func6, Try.ntmps6
     go_wp2_with (first | (go_at_call 12; refine (ownSys_any 0 0 _ (by decide)).mono ?_; rintro e w' ⟨rfl, rfl⟩) | (go_at_call 13; refine (goes_any 0 false _ (by decide)).mono ?_; rintro e w' ⟨rfl, rfl⟩))
     go_returns
     exact ⟨rfl, by go_grown⟩)

set_option maxHeartbeats 8000000 in
theorem source_1 (a b : Bool) (w : World) : Calls Try.prog 6 #[.agg #[.bool a, .bool b], .int .i64 1] w fun e w' => e = .returned (.tuple #[.int .i64 (srcN a b 1), .int .i64 (srcE a b 1)]) ∧ Below w.heap.size w w' := by
  cases a <;> cases b <;>
    (go_enter Try.func6, Try.ntmps6
     go_wp2_with (first | (go_at_call 12; refine (ownSys_any 1 0 _ (by decide)).mono ?_; rintro e w' ⟨rfl, rfl⟩) | (go_at_call 13; refine (goes_any 1 true _ (by decide)).mono ?_; rintro e w' ⟨rfl, rfl⟩))
     go_returns
     exact ⟨rfl, by go_grown⟩)

set_option maxHeartbeats 8000000 in
theorem source_2 (a b : Bool) (w : World) : Calls Try.prog 6 #[.agg #[.bool a, .bool b], .int .i64 2] w fun e w' => e = .returned (.tuple #[.int .i64 (srcN a b 2), .int .i64 (srcE a b 2)]) ∧ Below w.heap.size w w' := by
  cases a <;> cases b <;>
    (go_enter Try.func6, Try.ntmps6
     go_wp2_with (first | (go_at_call 12; refine (ownSys_any 2 1 _ (by decide)).mono ?_; rintro e w' ⟨rfl, rfl⟩) | (go_at_call 13; refine (goes_any 2 false _ (by decide)).mono ?_; rintro e w' ⟨rfl, rfl⟩))
     go_returns
     exact ⟨rfl, by go_grown⟩)

set_option maxHeartbeats 8000000 in
theorem source_3 (a b : Bool) (w : World) : Calls Try.prog 6 #[.agg #[.bool a, .bool b], .int .i64 3] w fun e w' => e = .returned (.tuple #[.int .i64 (srcN a b 3), .int .i64 (srcE a b 3)]) ∧ Below w.heap.size w w' := by
  cases a <;> cases b <;>
    (go_enter Try.func6, Try.ntmps6
     go_wp2_with (first | (go_at_call 12; refine (ownSys_any 3 1 _ (by decide)).mono ?_; rintro e w' ⟨rfl, rfl⟩) | (go_at_call 13; refine (goes_any 3 true _ (by decide)).mono ?_; rintro e w' ⟨rfl, rfl⟩))
     go_returns
     exact ⟨rfl, by go_grown⟩)

end Go.Proofs.Ytebfjlgmljfnlaa
