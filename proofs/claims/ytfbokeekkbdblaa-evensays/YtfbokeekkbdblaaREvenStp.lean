/-
  Contracts of the document's own EvenStep and Trim (package steadref): whatever is handed in.
-/
import Derived.Test.YtfbokeekkbdblaaREven
import Derived.Deep.LoopGhost
namespace Go.Proofs.Ytfbokeekkbdblaa
open Go.RowKit
set_option linter.unusedVariables false

set_option maxHeartbeats 8000000 in
set_option maxRecDepth 100000 in
theorem rtrim_core (V O S : Nat → Int) (w : World) (HP : Hid (∀ j, j < 4 → I32 (V j) ∧ I32 (O j) ∧ ∀ W, Calls Try.prog 20 #[.int .i64 (V j + O j)] W fun e w' => e = .returned (.int .i32 (S j)) ∧ w' = W)) :
    Calls Try.prog 10 #[.agg #[.int .i32 (V 0), .int .i32 (V 1), .int .i32 (V 2), .int .i32 (V 3)], .agg #[.int .i32 (O 0), .int .i32 (O 1), .int .i32 (O 2), .int .i32 (O 3)]] w fun e w' => e = .returned (.agg #[.int .i32 (S 0), .int .i32 (S 1), .int .i32 (S 2), .int .i32 (S 3)]) ∧ Below w.heap.size w w' := by
  have B0 : Hid (Lay w [[.int .i32 (V 0), .int .i32 (V 1), .int .i32 (V 2), .int .i32 (V 3)], [.int .i32 (O 0), .int .i32 (O 1), .int .i32 (O 2), .int .i32 (O 3)], [.int .i32 0, .int .i32 0, .int .i32 0, .int .i32 0], [.int .i32 (upI 0 0 (S 0)), .int .i32 (upI 0 1 (S 1)), .int .i32 (upI 0 2 (S 2)), .int .i32 (upI 0 3 (S 3))]] _) := lay4 w #[.int .i32 (V 0), .int .i32 (V 1), .int .i32 (V 2), .int .i32 (V 3)] #[.int .i32 (O 0), .int .i32 (O 1), .int .i32 (O 2), .int .i32 (O 3)] #[.int .i32 0, .int .i32 0, .int .i32 0, .int .i32 0] #[.int .i32 0, .int .i32 0, .int .i32 0, .int .i32 0] 22 22 22 22
  go_enter Try.func10, Try.ntmps10
  go_wp2_with fail
  go_loopg [7] (5) (fun g s wr => ∃ j : Nat, s = .int .i64 j ∧ 4 - j < g ∧ j ≤ 4 ∧ Hid (Lay w [[.int .i32 (V 0), .int .i32 (V 1), .int .i32 (V 2), .int .i32 (V 3)], [.int .i32 (O 0), .int .i32 (O 1), .int .i32 (O 2), .int .i32 (O 3)], [.int .i32 0, .int .i32 0, .int .i32 0, .int .i32 0], [.int .i32 (upI j 0 (S 0)), .int .i32 (upI j 1 (S 1)), .int .i32 (upI j 2 (S 2)), .int .i32 (upI j 3 (S 3))]] wr))
  case atStart => exact ⟨0, rfl, by omega, by omega, B0⟩
  case round =>
    obtain ⟨j, rfl, hg, hj, HB⟩ := hrel
    clear B0
    by_cases hlt : j < 4
    · obtain rfl | rfl | rfl | rfl := cases4 hlt
      · obtain ⟨⟨v1, v2⟩, ⟨o1, o2⟩, hc⟩ := HP.out 0 (by omega)
        have CA : Hid (_) := hc
        have e1 : IntKind.i64.wrap (IntKind.i64.wrap (V 0) + IntKind.i64.wrap (O 0)) = V 0 + O 0 := by
          rw [IntKind.wrap_i64, IntKind.wrap_i64, IntKind.wrap_i64]
          omega
        have W1 : Hid (_) := e1
        clear hc e1
        have dl := (HB.out.blk 0 (w.heap.size) _ rfl rfl).lt
        have d0 := (HB.out.blk 0 (w.heap.size) _ rfl rfl).cell 0 _ rfl
        have d1 := (HB.out.blk 0 (w.heap.size) _ rfl rfl).cell 1 _ rfl
        have d2 := (HB.out.blk 0 (w.heap.size) _ rfl rfl).cell 2 _ rfl
        have d3 := (HB.out.blk 0 (w.heap.size) _ rfl rfl).cell 3 _ rfl
        have cl := (HB.out.blk 1 (w.heap.size + 1) _ rfl rfl).lt
        have c0 := (HB.out.blk 1 (w.heap.size + 1) _ rfl rfl).cell 0 _ rfl
        have c1 := (HB.out.blk 1 (w.heap.size + 1) _ rfl rfl).cell 1 _ rfl
        have c2 := (HB.out.blk 1 (w.heap.size + 1) _ rfl rfl).cell 2 _ rfl
        have c3 := (HB.out.blk 1 (w.heap.size + 1) _ rfl rfl).cell 3 _ rfl
        have xl := (HB.out.blk 3 (w.heap.size + 1 + 1 + 1) _ rfl rfl).lt
        have x0 := (HB.out.blk 3 (w.heap.size + 1 + 1 + 1) _ rfl rfl).cell 0 _ rfl
        have x1 := (HB.out.blk 3 (w.heap.size + 1 + 1 + 1) _ rfl rfl).cell 1 _ rfl
        have x2 := (HB.out.blk 3 (w.heap.size + 1 + 1 + 1) _ rfl rfl).cell 2 _ rfl
        have x3 := (HB.out.blk 3 (w.heap.size + 1 + 1 + 1) _ rfl rfl).cell 3 _ rfl
        have xf0 := (HB.out.blk 3 (w.heap.size + 1 + 1 + 1) _ rfl rfl).froz 0 _ rfl
        have xf1 := (HB.out.blk 3 (w.heap.size + 1 + 1 + 1) _ rfl rfl).froz 1 _ rfl
        have xf2 := (HB.out.blk 3 (w.heap.size + 1 + 1 + 1) _ rfl rfl).froz 2 _ rfl
        have xf3 := (HB.out.blk 3 (w.heap.size + 1 + 1 + 1) _ rfl rfl).froz 3 _ rfl
        go_wp2_with fail
        have HX := (HB.out.set 3 (w.heap.size + 1 + 1 + 1) 0 _ (.int .i32 (S 0)) rfl rfl (by simp)).drew
        have HX0 := (HX.blk 0 (w.heap.size) _ rfl rfl).cell 0 _ rfl
        have HX1 := (HX.blk 1 (w.heap.size + 1) _ rfl rfl).cell 0 _ rfl
        clear HX
        go_region_held3 (fun w' => w'.cell? ⟨w.heap.size, 0, none⟩ = some (.int .i32 (V 0)) ∧ w'.cell? ⟨w.heap.size + 1, 0, none⟩ = some (.int .i32 (O 0))) (go_keep) (first | (go_at_call 20; rw [W1.out]; refine (CA.out _).mono ?_; rintro r w5 ⟨rfl, rfl⟩))
        all_goals (try go_wp2_with fail)
        all_goals go_roundg (4 - (0 + 1) + 1)
        case measure => omega
        case rel => exact ⟨1, rfl, by omega, by omega, HB.out.drew.set 3 (w.heap.size + 1 + 1 + 1) 0 _ (.int .i32 (S 0)) rfl rfl (by simp)⟩
      · obtain ⟨⟨v1, v2⟩, ⟨o1, o2⟩, hc⟩ := HP.out 1 (by omega)
        have CA : Hid (_) := hc
        have e1 : IntKind.i64.wrap (IntKind.i64.wrap (V 1) + IntKind.i64.wrap (O 1)) = V 1 + O 1 := by
          rw [IntKind.wrap_i64, IntKind.wrap_i64, IntKind.wrap_i64]
          omega
        have W1 : Hid (_) := e1
        clear hc e1
        have dl := (HB.out.blk 0 (w.heap.size) _ rfl rfl).lt
        have d0 := (HB.out.blk 0 (w.heap.size) _ rfl rfl).cell 0 _ rfl
        have d1 := (HB.out.blk 0 (w.heap.size) _ rfl rfl).cell 1 _ rfl
        have d2 := (HB.out.blk 0 (w.heap.size) _ rfl rfl).cell 2 _ rfl
        have d3 := (HB.out.blk 0 (w.heap.size) _ rfl rfl).cell 3 _ rfl
        have cl := (HB.out.blk 1 (w.heap.size + 1) _ rfl rfl).lt
        have c0 := (HB.out.blk 1 (w.heap.size + 1) _ rfl rfl).cell 0 _ rfl
        have c1 := (HB.out.blk 1 (w.heap.size + 1) _ rfl rfl).cell 1 _ rfl
        have c2 := (HB.out.blk 1 (w.heap.size + 1) _ rfl rfl).cell 2 _ rfl
        have c3 := (HB.out.blk 1 (w.heap.size + 1) _ rfl rfl).cell 3 _ rfl
        have xl := (HB.out.blk 3 (w.heap.size + 1 + 1 + 1) _ rfl rfl).lt
        have x0 := (HB.out.blk 3 (w.heap.size + 1 + 1 + 1) _ rfl rfl).cell 0 _ rfl
        have x1 := (HB.out.blk 3 (w.heap.size + 1 + 1 + 1) _ rfl rfl).cell 1 _ rfl
        have x2 := (HB.out.blk 3 (w.heap.size + 1 + 1 + 1) _ rfl rfl).cell 2 _ rfl
        have x3 := (HB.out.blk 3 (w.heap.size + 1 + 1 + 1) _ rfl rfl).cell 3 _ rfl
        have xf0 := (HB.out.blk 3 (w.heap.size + 1 + 1 + 1) _ rfl rfl).froz 0 _ rfl
        have xf1 := (HB.out.blk 3 (w.heap.size + 1 + 1 + 1) _ rfl rfl).froz 1 _ rfl
        have xf2 := (HB.out.blk 3 (w.heap.size + 1 + 1 + 1) _ rfl rfl).froz 2 _ rfl
        have xf3 := (HB.out.blk 3 (w.heap.size + 1 + 1 + 1) _ rfl rfl).froz 3 _ rfl
        go_wp2_with fail
        have HX := (HB.out.set 3 (w.heap.size + 1 + 1 + 1) 1 _ (.int .i32 (S 1)) rfl rfl (by simp)).drew
        have HX0 := (HX.blk 0 (w.heap.size) _ rfl rfl).cell 1 _ rfl
        have HX1 := (HX.blk 1 (w.heap.size + 1) _ rfl rfl).cell 1 _ rfl
        clear HX
        go_region_held3 (fun w' => w'.cell? ⟨w.heap.size, 1, none⟩ = some (.int .i32 (V 1)) ∧ w'.cell? ⟨w.heap.size + 1, 1, none⟩ = some (.int .i32 (O 1))) (go_keep) (first | (go_at_call 20; rw [W1.out]; refine (CA.out _).mono ?_; rintro r w5 ⟨rfl, rfl⟩))
        all_goals (try go_wp2_with fail)
        all_goals go_roundg (4 - (1 + 1) + 1)
        case measure => omega
        case rel => exact ⟨2, rfl, by omega, by omega, HB.out.drew.set 3 (w.heap.size + 1 + 1 + 1) 1 _ (.int .i32 (S 1)) rfl rfl (by simp)⟩
      · obtain ⟨⟨v1, v2⟩, ⟨o1, o2⟩, hc⟩ := HP.out 2 (by omega)
        have CA : Hid (_) := hc
        have e1 : IntKind.i64.wrap (IntKind.i64.wrap (V 2) + IntKind.i64.wrap (O 2)) = V 2 + O 2 := by
          rw [IntKind.wrap_i64, IntKind.wrap_i64, IntKind.wrap_i64]
          omega
        have W1 : Hid (_) := e1
        clear hc e1
        have dl := (HB.out.blk 0 (w.heap.size) _ rfl rfl).lt
        have d0 := (HB.out.blk 0 (w.heap.size) _ rfl rfl).cell 0 _ rfl
        have d1 := (HB.out.blk 0 (w.heap.size) _ rfl rfl).cell 1 _ rfl
        have d2 := (HB.out.blk 0 (w.heap.size) _ rfl rfl).cell 2 _ rfl
        have d3 := (HB.out.blk 0 (w.heap.size) _ rfl rfl).cell 3 _ rfl
        have cl := (HB.out.blk 1 (w.heap.size + 1) _ rfl rfl).lt
        have c0 := (HB.out.blk 1 (w.heap.size + 1) _ rfl rfl).cell 0 _ rfl
        have c1 := (HB.out.blk 1 (w.heap.size + 1) _ rfl rfl).cell 1 _ rfl
        have c2 := (HB.out.blk 1 (w.heap.size + 1) _ rfl rfl).cell 2 _ rfl
        have c3 := (HB.out.blk 1 (w.heap.size + 1) _ rfl rfl).cell 3 _ rfl
        have xl := (HB.out.blk 3 (w.heap.size + 1 + 1 + 1) _ rfl rfl).lt
        have x0 := (HB.out.blk 3 (w.heap.size + 1 + 1 + 1) _ rfl rfl).cell 0 _ rfl
        have x1 := (HB.out.blk 3 (w.heap.size + 1 + 1 + 1) _ rfl rfl).cell 1 _ rfl
        have x2 := (HB.out.blk 3 (w.heap.size + 1 + 1 + 1) _ rfl rfl).cell 2 _ rfl
        have x3 := (HB.out.blk 3 (w.heap.size + 1 + 1 + 1) _ rfl rfl).cell 3 _ rfl
        have xf0 := (HB.out.blk 3 (w.heap.size + 1 + 1 + 1) _ rfl rfl).froz 0 _ rfl
        have xf1 := (HB.out.blk 3 (w.heap.size + 1 + 1 + 1) _ rfl rfl).froz 1 _ rfl
        have xf2 := (HB.out.blk 3 (w.heap.size + 1 + 1 + 1) _ rfl rfl).froz 2 _ rfl
        have xf3 := (HB.out.blk 3 (w.heap.size + 1 + 1 + 1) _ rfl rfl).froz 3 _ rfl
        go_wp2_with fail
        have HX := (HB.out.set 3 (w.heap.size + 1 + 1 + 1) 2 _ (.int .i32 (S 2)) rfl rfl (by simp)).drew
        have HX0 := (HX.blk 0 (w.heap.size) _ rfl rfl).cell 2 _ rfl
        have HX1 := (HX.blk 1 (w.heap.size + 1) _ rfl rfl).cell 2 _ rfl
        clear HX
        go_region_held3 (fun w' => w'.cell? ⟨w.heap.size, 2, none⟩ = some (.int .i32 (V 2)) ∧ w'.cell? ⟨w.heap.size + 1, 2, none⟩ = some (.int .i32 (O 2))) (go_keep) (first | (go_at_call 20; rw [W1.out]; refine (CA.out _).mono ?_; rintro r w5 ⟨rfl, rfl⟩))
        all_goals (try go_wp2_with fail)
        all_goals go_roundg (4 - (2 + 1) + 1)
        case measure => omega
        case rel => exact ⟨3, rfl, by omega, by omega, HB.out.drew.set 3 (w.heap.size + 1 + 1 + 1) 2 _ (.int .i32 (S 2)) rfl rfl (by simp)⟩
      · obtain ⟨⟨v1, v2⟩, ⟨o1, o2⟩, hc⟩ := HP.out 3 (by omega)
        have CA : Hid (_) := hc
        have e1 : IntKind.i64.wrap (IntKind.i64.wrap (V 3) + IntKind.i64.wrap (O 3)) = V 3 + O 3 := by
          rw [IntKind.wrap_i64, IntKind.wrap_i64, IntKind.wrap_i64]
          omega
        have W1 : Hid (_) := e1
        clear hc e1
        have dl := (HB.out.blk 0 (w.heap.size) _ rfl rfl).lt
        have d0 := (HB.out.blk 0 (w.heap.size) _ rfl rfl).cell 0 _ rfl
        have d1 := (HB.out.blk 0 (w.heap.size) _ rfl rfl).cell 1 _ rfl
        have d2 := (HB.out.blk 0 (w.heap.size) _ rfl rfl).cell 2 _ rfl
        have d3 := (HB.out.blk 0 (w.heap.size) _ rfl rfl).cell 3 _ rfl
        have cl := (HB.out.blk 1 (w.heap.size + 1) _ rfl rfl).lt
        have c0 := (HB.out.blk 1 (w.heap.size + 1) _ rfl rfl).cell 0 _ rfl
        have c1 := (HB.out.blk 1 (w.heap.size + 1) _ rfl rfl).cell 1 _ rfl
        have c2 := (HB.out.blk 1 (w.heap.size + 1) _ rfl rfl).cell 2 _ rfl
        have c3 := (HB.out.blk 1 (w.heap.size + 1) _ rfl rfl).cell 3 _ rfl
        have xl := (HB.out.blk 3 (w.heap.size + 1 + 1 + 1) _ rfl rfl).lt
        have x0 := (HB.out.blk 3 (w.heap.size + 1 + 1 + 1) _ rfl rfl).cell 0 _ rfl
        have x1 := (HB.out.blk 3 (w.heap.size + 1 + 1 + 1) _ rfl rfl).cell 1 _ rfl
        have x2 := (HB.out.blk 3 (w.heap.size + 1 + 1 + 1) _ rfl rfl).cell 2 _ rfl
        have x3 := (HB.out.blk 3 (w.heap.size + 1 + 1 + 1) _ rfl rfl).cell 3 _ rfl
        have xf0 := (HB.out.blk 3 (w.heap.size + 1 + 1 + 1) _ rfl rfl).froz 0 _ rfl
        have xf1 := (HB.out.blk 3 (w.heap.size + 1 + 1 + 1) _ rfl rfl).froz 1 _ rfl
        have xf2 := (HB.out.blk 3 (w.heap.size + 1 + 1 + 1) _ rfl rfl).froz 2 _ rfl
        have xf3 := (HB.out.blk 3 (w.heap.size + 1 + 1 + 1) _ rfl rfl).froz 3 _ rfl
        go_wp2_with fail
        have HX := (HB.out.set 3 (w.heap.size + 1 + 1 + 1) 3 _ (.int .i32 (S 3)) rfl rfl (by simp)).drew
        have HX0 := (HX.blk 0 (w.heap.size) _ rfl rfl).cell 3 _ rfl
        have HX1 := (HX.blk 1 (w.heap.size + 1) _ rfl rfl).cell 3 _ rfl
        clear HX
        go_region_held3 (fun w' => w'.cell? ⟨w.heap.size, 3, none⟩ = some (.int .i32 (V 3)) ∧ w'.cell? ⟨w.heap.size + 1, 3, none⟩ = some (.int .i32 (O 3))) (go_keep) (first | (go_at_call 20; rw [W1.out]; refine (CA.out _).mono ?_; rintro r w5 ⟨rfl, rfl⟩))
        all_goals (try go_wp2_with fail)
        all_goals go_roundg (4 - (3 + 1) + 1)
        case measure => omega
        case rel => exact ⟨4, rfl, by omega, by omega, HB.out.drew.set 3 (w.heap.size + 1 + 1 + 1) 3 _ (.int .i32 (S 3)) rfl rfl (by simp)⟩
    · obtain rfl : j = 4 := by omega
      have cl := (HB.out.blk 2 (w.heap.size + 1 + 1) _ rfl rfl).lt
      have c0 := (HB.out.blk 2 (w.heap.size + 1 + 1) _ rfl rfl).cell 0 _ rfl
      have c1 := (HB.out.blk 2 (w.heap.size + 1 + 1) _ rfl rfl).cell 1 _ rfl
      have c2 := (HB.out.blk 2 (w.heap.size + 1 + 1) _ rfl rfl).cell 2 _ rfl
      have c3 := (HB.out.blk 2 (w.heap.size + 1 + 1) _ rfl rfl).cell 3 _ rfl
      have cf0 := (HB.out.blk 2 (w.heap.size + 1 + 1) _ rfl rfl).froz 0 _ rfl
      have cf1 := (HB.out.blk 2 (w.heap.size + 1 + 1) _ rfl rfl).froz 1 _ rfl
      have cf2 := (HB.out.blk 2 (w.heap.size + 1 + 1) _ rfl rfl).froz 2 _ rfl
      have cf3 := (HB.out.blk 2 (w.heap.size + 1 + 1) _ rfl rfl).froz 3 _ rfl
      have xl := (HB.out.blk 3 (w.heap.size + 1 + 1 + 1) _ rfl rfl).lt
      have x0 := (HB.out.blk 3 (w.heap.size + 1 + 1 + 1) _ rfl rfl).cell 0 _ rfl
      have x1 := (HB.out.blk 3 (w.heap.size + 1 + 1 + 1) _ rfl rfl).cell 1 _ rfl
      have x2 := (HB.out.blk 3 (w.heap.size + 1 + 1 + 1) _ rfl rfl).cell 2 _ rfl
      have x3 := (HB.out.blk 3 (w.heap.size + 1 + 1 + 1) _ rfl rfl).cell 3 _ rfl
      go_wp2_with fail
      obtain ⟨w3, hw3, B3⟩ := HB.out.put4 2 (w.heap.size + 1 + 1) (.int .i32 (upI 4 0 (S 0))) (.int .i32 (upI 4 1 (S 1))) (.int .i32 (upI 4 2 (S 2))) (.int .i32 (upI 4 3 (S 3))) rfl rfl
      rw [hw3]
      have fl := (B3.blk 2 (w.heap.size + 1 + 1) _ rfl rfl).lt
      have f0 := (B3.blk 2 (w.heap.size + 1 + 1) _ rfl rfl).cell 0 _ rfl
      have f1 := (B3.blk 2 (w.heap.size + 1 + 1) _ rfl rfl).cell 1 _ rfl
      have f2 := (B3.blk 2 (w.heap.size + 1 + 1) _ rfl rfl).cell 2 _ rfl
      have f3 := (B3.blk 2 (w.heap.size + 1 + 1) _ rfl rfl).cell 3 _ rfl
      refine bodyPost_ret (by simp [results, Try.results10, go_sem, f0, f1, f2, f3]; try rfl) rfl ?_
      exact ⟨rfl, B3.bel⟩

theorem rtrim_any (v0 v1 v2 v3 o0 o1 o2 o3 : Int) (hv : Q4 v0 v1 v2 v3) (ho : Q4 o0 o1 o2 o3) (w : World) : Calls Try.prog 10 #[.agg #[.int .i32 v0, .int .i32 v1, .int .i32 v2, .int .i32 v3], .agg #[.int .i32 o0, .int .i32 o1, .int .i32 o2, .int .i32 o3]] w fun e w' => e = .returned (.agg #[.int .i32 (s32 (v0 + o0)), .int .i32 (s32 (v1 + o1)), .int .i32 (s32 (v2 + o2)), .int .i32 (s32 (v3 + o3))]) ∧ Below w.heap.size w w' :=
  rtrim_core (q4 v0 v1 v2 v3) (q4 o0 o1 o2 o3) (q4 (s32 (v0 + o0)) (s32 (v1 + o1)) (s32 (v2 + o2)) (s32 (v3 + o3))) w (fun j hj => by
    obtain rfl | rfl | rfl | rfl := cases4 hj
    · exact ⟨hv.a, ho.a, fun W => rsat_any _ W⟩
    · exact ⟨hv.b, ho.b, fun W => rsat_any _ W⟩
    · exact ⟨hv.c, ho.c, fun W => rsat_any _ W⟩
    · exact ⟨hv.d, ho.d, fun W => rsat_any _ W⟩)

theorem tdiv_step (f : Int) (k : Nat) : (f.tdiv (2 ^ k)).tdiv 2 = f.tdiv (2 ^ (k + 1)) := by
  have pos : ∀ x : Int, 0 ≤ x → (x.tdiv (2 ^ k)).tdiv 2 = x.tdiv (2 ^ (k + 1)) := fun x hx => by
    have p := pow2_pos k
    have q : 0 ≤ x / 2 ^ k := Int.ediv_nonneg hx (by omega)
    rw [Int.tdiv_eq_ediv_of_nonneg hx, Int.tdiv_eq_ediv_of_nonneg q, Int.tdiv_eq_ediv_of_nonneg hx]
    exact div_step x k
  rcases Int.lt_or_le f 0 with h | h
  · have := pos (-f) (by omega)
    rw [Int.neg_tdiv, Int.neg_tdiv, Int.neg_tdiv] at this
    omega
  · exact pos f h

/-- the first j of the new ones, the old ones behind -/
def mixI (j i : Nat) (s o : Int) : Int := if i < j then s else o
/-- the boxes of what came in (the first of them with its first j answered) and the answer's -/
def Rv (w : World) (O F M S : Nat → Int) (j : Nat) (W : World) : Prop :=
  Lay w [[.int .i32 (mixI j 0 (S 0) (O 0)), .int .i32 (mixI j 1 (S 1) (O 1)), .int .i32 (mixI j 2 (S 2) (O 2)), .int .i32 (mixI j 3 (S 3) (O 3))], [.int .i32 (F 0), .int .i32 (F 1), .int .i32 (F 2), .int .i32 (F 3)], [.int .i64 (M 0), .int .i64 (M 1), .int .i64 (M 2), .int .i64 (M 3)], [.int .i32 0, .int .i32 0, .int .i32 0, .int .i32 0]] W
theorem Rv.lay {w : World} {O F M S : Nat → Int} {j : Nat} {W : World} (h : Rv w O F M S j W) : Lay w [[.int .i32 (mixI j 0 (S 0) (O 0)), .int .i32 (mixI j 1 (S 1) (O 1)), .int .i32 (mixI j 2 (S 2) (O 2)), .int .i32 (mixI j 3 (S 3) (O 3))], [.int .i32 (F 0), .int .i32 (F 1), .int .i32 (F 2), .int .i32 (F 3)], [.int .i64 (M 0), .int .i64 (M 1), .int .i64 (M 2), .int .i64 (M 3)], [.int .i32 0, .int .i32 0, .int .i32 0, .int .i32 0]] W := h
theorem Rv.store {w : World} {O F M S : Nat → Int} {j : Nat} {W : World} (h : Rv w O F M S j W) (hj : j < 4) : Rv w O F M S (j + 1) (W.setCell ⟨w.heap.size, j, none⟩ (.int .i32 (S j))) := by
  have h1 := Lay.set h 0 (w.heap.size) j _ (.int .i32 (S j)) rfl rfl (by simpa using hj)
  obtain rfl | rfl | rfl | rfl := cases4 hj <;> exact h1
/-- a lane's next offset -/
def Lr (a o f : Int) (n : Nat) (m s : Int) : Prop :=
  ((a != 1) = true ∧ ∀ W, Calls Try.prog 21 #[.int .i32 o, .int .i32 0, .int .i64 n] W fun e w' => e = .returned (.int .i32 s) ∧ w' = W) ∨ ((a != 1) = false ∧ s = clampI (s32 (o - f.tdiv (2 ^ n))) (-m) m)
theorem lr_any {a o f m : Int} {n : Nat} (ho : I32 o) (hn : n ≤ 30) : Lr a o f n m (evN a o f n m) := by
  unfold evN
  by_cases h : a = 1
  · rw [if_pos h]
    exact Or.inr ⟨by simpa using h, rfl⟩
  · rw [if_neg h]
    exact Or.inl ⟨by simpa using h, fun W => rlow_any o 0 n ho.1 ho.2 (by decide) (by decide) hn W⟩

set_option maxHeartbeats 16000000 in
set_option maxRecDepth 100000 in
theorem rEvStep_core (O F M S : Nat → Int) (n : Nat) (m : Int) (w : World) (m0 : 0 ≤ m) (m1 : m ≤ 2147483647) (hn : n ≤ 30) (HI : Hid (∀ j, j < 4 → I32 (O j) ∧ I32 (F j))) (HP : Hid (∀ j, j < 4 → Lr (M j) (O j) (F j) n m (S j))) :
    Calls Try.prog 11 #[.agg #[.int .i32 (O 0), .int .i32 (O 1), .int .i32 (O 2), .int .i32 (O 3)], .agg #[.int .i32 (F 0), .int .i32 (F 1), .int .i32 (F 2), .int .i32 (F 3)], .agg #[.int .i64 (M 0), .int .i64 (M 1), .int .i64 (M 2), .int .i64 (M 3)], .int .i64 n, .int .i32 m] w fun e w' => e = .returned (.agg #[.int .i32 (S 0), .int .i32 (S 1), .int .i32 (S 2), .int .i32 (S 3)]) ∧ Below w.heap.size w w' := by
  have B0 : Hid (Rv w O F M S 0 _) := lay4 w #[.int .i32 (O 0), .int .i32 (O 1), .int .i32 (O 2), .int .i32 (O 3)] #[.int .i32 (F 0), .int .i32 (F 1), .int .i32 (F 2), .int .i32 (F 3)] #[.int .i64 (M 0), .int .i64 (M 1), .int .i64 (M 2), .int .i64 (M 3)] #[.int .i32 0, .int .i32 0, .int .i32 0, .int .i32 0] 22 22 23 22
  obtain ⟨i0, i1, i2, i3⟩ := ixN (M 0) (M 1) (M 2) (M 3)
  go_enter Try.func11, Try.ntmps11
  go_wp2_with fail
  go_loopg [15] (5) (fun g s wr => ∃ j : Nat, s = .int .i64 j ∧ 4 - j < g ∧ j ≤ 4 ∧ Hid (Rv w O F M S j wr))
  case atStart => exact ⟨0, rfl, by omega, by omega, B0⟩
  case round =>
    obtain ⟨j, rfl, hg, hj, HB⟩ := hrel
    clear B0
    by_cases hlt : j < 4
    · obtain rfl | rfl | rfl | rfl := cases4 hlt
      · obtain ⟨⟨o1, o2⟩, f1, f2⟩ := HI.out 0 (by omega)
        rcases HP.out 0 (by omega) with ⟨he, hc⟩ | ⟨he, hs⟩
        · have CA : Hid (_) := hc
          clear hc
          have cl := ((HB.out.lay).blk 0 (w.heap.size) _ rfl rfl).lt
          have c0 := ((HB.out.lay).blk 0 (w.heap.size) _ rfl rfl).cell 0 _ rfl
          have c1 := ((HB.out.lay).blk 0 (w.heap.size) _ rfl rfl).cell 1 _ rfl
          have c2 := ((HB.out.lay).blk 0 (w.heap.size) _ rfl rfl).cell 2 _ rfl
          have c3 := ((HB.out.lay).blk 0 (w.heap.size) _ rfl rfl).cell 3 _ rfl
          have cf0 := ((HB.out.lay).blk 0 (w.heap.size) _ rfl rfl).froz 0 _ rfl
          have cf1 := ((HB.out.lay).blk 0 (w.heap.size) _ rfl rfl).froz 1 _ rfl
          have cf2 := ((HB.out.lay).blk 0 (w.heap.size) _ rfl rfl).froz 2 _ rfl
          have cf3 := ((HB.out.lay).blk 0 (w.heap.size) _ rfl rfl).froz 3 _ rfl
          go_wp2_with (go_at_call 21; refine (CA.out _).mono ?_; rintro r w5 ⟨rfl, rfl⟩)
          go_roundg (4 - (0 + 1) + 1)
          case measure => omega
          case rel => exact ⟨1, rfl, by omega, by omega, HB.out.store (by omega)⟩
        · have HS : Hid (_) := hs
          clear hs
          have dl := ((HB.out.lay).blk 1 (w.heap.size + 1) _ rfl rfl).lt
          have d0 := ((HB.out.lay).blk 1 (w.heap.size + 1) _ rfl rfl).cell 0 _ rfl
          have d1 := ((HB.out.lay).blk 1 (w.heap.size + 1) _ rfl rfl).cell 1 _ rfl
          have d2 := ((HB.out.lay).blk 1 (w.heap.size + 1) _ rfl rfl).cell 2 _ rfl
          have d3 := ((HB.out.lay).blk 1 (w.heap.size + 1) _ rfl rfl).cell 3 _ rfl
          go_wp2_with fail
          clear dl d0 d1 d2 d3
          go_loopg [13, 33] (n + 1) (fun g t s wr => ∃ k : Nat, t = .int .i64 ((F 0).tdiv (2 ^ k)) ∧ s = .int .i64 k ∧ n - k < g ∧ k ≤ n ∧ Hid (Rv w O F M S 0 wr))
          case atStart => exact ⟨0, by simp, rfl, by omega, by omega, HB⟩
          case round =>
            obtain ⟨k, rfl, rfl, hg2, hk, HB2⟩ := hrel
            clear HB
            obtain ⟨q1, q2⟩ := tdiv_I (f := F 0) ⟨f1, f2⟩ k
            by_cases hlt2 : k < n
            · have z1 : (k : Int) < (n : Int) := by omega
              have hs := tdiv_step (F 0) k
              have HT : Hid (_) := hs
              clear hs
              generalize (F 0).tdiv (2 ^ k) = A at q1 q2 HT ⊢
              go_wp2_with fail
              go_roundg (n - (k + 1) + 1)
              case measure => omega
              case rel => exact ⟨k + 1, by rw [HT.out], by go_num, by omega, by omega, HB2⟩
            · have z1 : ¬ (k : Int) < (n : Int) := by omega
              obtain rfl : k = n := by omega
              have HT : Hid (S 0 = _) := HS.out
              clear HS
              generalize (F 0).tdiv (2 ^ k) = A at q1 q2 HT ⊢
              have cl := ((HB2.out.lay).blk 0 (w.heap.size) _ rfl rfl).lt
              have c0 := ((HB2.out.lay).blk 0 (w.heap.size) _ rfl rfl).cell 0 _ rfl
              have c1 := ((HB2.out.lay).blk 0 (w.heap.size) _ rfl rfl).cell 1 _ rfl
              have c2 := ((HB2.out.lay).blk 0 (w.heap.size) _ rfl rfl).cell 2 _ rfl
              have c3 := ((HB2.out.lay).blk 0 (w.heap.size) _ rfl rfl).cell 3 _ rfl
              have cf0 := ((HB2.out.lay).blk 0 (w.heap.size) _ rfl rfl).froz 0 _ rfl
              have cf1 := ((HB2.out.lay).blk 0 (w.heap.size) _ rfl rfl).froz 1 _ rfl
              have cf2 := ((HB2.out.lay).blk 0 (w.heap.size) _ rfl rfl).froz 2 _ rfl
              have cf3 := ((HB2.out.lay).blk 0 (w.heap.size) _ rfl rfl).froz 3 _ rfl
              change _ = some (Value.int .i32 (O 0)) at c0
              have s1 := (s32_I ((O 0) - A)).1
              have s2 := (s32_I ((O 0) - A)).2
              go_wp2_with (first | (go_at_call 20; refine (rsat_any _ _).mono ?_; rintro r w5 ⟨rfl, rfl⟩) | (go_at_call 22; refine (rclamp_any _ _ _ (by omega) (by omega) (by omega) (by omega) (by omega) (by omega) _).mono ?_; rintro r w5 ⟨rfl, rfl⟩))
              go_roundg (4 - (0 + 1) + 1)
              case measure => omega
              case rel => exact ⟨1, rfl, by omega, by omega, by rw [← HT.out]; exact HB2.out.store (by omega)⟩
      · obtain ⟨⟨o1, o2⟩, f1, f2⟩ := HI.out 1 (by omega)
        rcases HP.out 1 (by omega) with ⟨he, hc⟩ | ⟨he, hs⟩
        · have CA : Hid (_) := hc
          clear hc
          have cl := ((HB.out.lay).blk 0 (w.heap.size) _ rfl rfl).lt
          have c0 := ((HB.out.lay).blk 0 (w.heap.size) _ rfl rfl).cell 0 _ rfl
          have c1 := ((HB.out.lay).blk 0 (w.heap.size) _ rfl rfl).cell 1 _ rfl
          have c2 := ((HB.out.lay).blk 0 (w.heap.size) _ rfl rfl).cell 2 _ rfl
          have c3 := ((HB.out.lay).blk 0 (w.heap.size) _ rfl rfl).cell 3 _ rfl
          have cf0 := ((HB.out.lay).blk 0 (w.heap.size) _ rfl rfl).froz 0 _ rfl
          have cf1 := ((HB.out.lay).blk 0 (w.heap.size) _ rfl rfl).froz 1 _ rfl
          have cf2 := ((HB.out.lay).blk 0 (w.heap.size) _ rfl rfl).froz 2 _ rfl
          have cf3 := ((HB.out.lay).blk 0 (w.heap.size) _ rfl rfl).froz 3 _ rfl
          go_wp2_with (go_at_call 21; refine (CA.out _).mono ?_; rintro r w5 ⟨rfl, rfl⟩)
          go_roundg (4 - (1 + 1) + 1)
          case measure => omega
          case rel => exact ⟨2, rfl, by omega, by omega, HB.out.store (by omega)⟩
        · have HS : Hid (_) := hs
          clear hs
          have dl := ((HB.out.lay).blk 1 (w.heap.size + 1) _ rfl rfl).lt
          have d0 := ((HB.out.lay).blk 1 (w.heap.size + 1) _ rfl rfl).cell 0 _ rfl
          have d1 := ((HB.out.lay).blk 1 (w.heap.size + 1) _ rfl rfl).cell 1 _ rfl
          have d2 := ((HB.out.lay).blk 1 (w.heap.size + 1) _ rfl rfl).cell 2 _ rfl
          have d3 := ((HB.out.lay).blk 1 (w.heap.size + 1) _ rfl rfl).cell 3 _ rfl
          go_wp2_with fail
          clear dl d0 d1 d2 d3
          go_loopg [13, 33] (n + 1) (fun g t s wr => ∃ k : Nat, t = .int .i64 ((F 1).tdiv (2 ^ k)) ∧ s = .int .i64 k ∧ n - k < g ∧ k ≤ n ∧ Hid (Rv w O F M S 1 wr))
          case atStart => exact ⟨0, by simp, rfl, by omega, by omega, HB⟩
          case round =>
            obtain ⟨k, rfl, rfl, hg2, hk, HB2⟩ := hrel
            clear HB
            obtain ⟨q1, q2⟩ := tdiv_I (f := F 1) ⟨f1, f2⟩ k
            by_cases hlt2 : k < n
            · have z1 : (k : Int) < (n : Int) := by omega
              have hs := tdiv_step (F 1) k
              have HT : Hid (_) := hs
              clear hs
              generalize (F 1).tdiv (2 ^ k) = A at q1 q2 HT ⊢
              go_wp2_with fail
              go_roundg (n - (k + 1) + 1)
              case measure => omega
              case rel => exact ⟨k + 1, by rw [HT.out], by go_num, by omega, by omega, HB2⟩
            · have z1 : ¬ (k : Int) < (n : Int) := by omega
              obtain rfl : k = n := by omega
              have HT : Hid (S 1 = _) := HS.out
              clear HS
              generalize (F 1).tdiv (2 ^ k) = A at q1 q2 HT ⊢
              have cl := ((HB2.out.lay).blk 0 (w.heap.size) _ rfl rfl).lt
              have c0 := ((HB2.out.lay).blk 0 (w.heap.size) _ rfl rfl).cell 0 _ rfl
              have c1 := ((HB2.out.lay).blk 0 (w.heap.size) _ rfl rfl).cell 1 _ rfl
              have c2 := ((HB2.out.lay).blk 0 (w.heap.size) _ rfl rfl).cell 2 _ rfl
              have c3 := ((HB2.out.lay).blk 0 (w.heap.size) _ rfl rfl).cell 3 _ rfl
              have cf0 := ((HB2.out.lay).blk 0 (w.heap.size) _ rfl rfl).froz 0 _ rfl
              have cf1 := ((HB2.out.lay).blk 0 (w.heap.size) _ rfl rfl).froz 1 _ rfl
              have cf2 := ((HB2.out.lay).blk 0 (w.heap.size) _ rfl rfl).froz 2 _ rfl
              have cf3 := ((HB2.out.lay).blk 0 (w.heap.size) _ rfl rfl).froz 3 _ rfl
              change _ = some (Value.int .i32 (O 1)) at c1
              have s1 := (s32_I ((O 1) - A)).1
              have s2 := (s32_I ((O 1) - A)).2
              go_wp2_with (first | (go_at_call 20; refine (rsat_any _ _).mono ?_; rintro r w5 ⟨rfl, rfl⟩) | (go_at_call 22; refine (rclamp_any _ _ _ (by omega) (by omega) (by omega) (by omega) (by omega) (by omega) _).mono ?_; rintro r w5 ⟨rfl, rfl⟩))
              go_roundg (4 - (1 + 1) + 1)
              case measure => omega
              case rel => exact ⟨2, rfl, by omega, by omega, by rw [← HT.out]; exact HB2.out.store (by omega)⟩
      · obtain ⟨⟨o1, o2⟩, f1, f2⟩ := HI.out 2 (by omega)
        rcases HP.out 2 (by omega) with ⟨he, hc⟩ | ⟨he, hs⟩
        · have CA : Hid (_) := hc
          clear hc
          have cl := ((HB.out.lay).blk 0 (w.heap.size) _ rfl rfl).lt
          have c0 := ((HB.out.lay).blk 0 (w.heap.size) _ rfl rfl).cell 0 _ rfl
          have c1 := ((HB.out.lay).blk 0 (w.heap.size) _ rfl rfl).cell 1 _ rfl
          have c2 := ((HB.out.lay).blk 0 (w.heap.size) _ rfl rfl).cell 2 _ rfl
          have c3 := ((HB.out.lay).blk 0 (w.heap.size) _ rfl rfl).cell 3 _ rfl
          have cf0 := ((HB.out.lay).blk 0 (w.heap.size) _ rfl rfl).froz 0 _ rfl
          have cf1 := ((HB.out.lay).blk 0 (w.heap.size) _ rfl rfl).froz 1 _ rfl
          have cf2 := ((HB.out.lay).blk 0 (w.heap.size) _ rfl rfl).froz 2 _ rfl
          have cf3 := ((HB.out.lay).blk 0 (w.heap.size) _ rfl rfl).froz 3 _ rfl
          go_wp2_with (go_at_call 21; refine (CA.out _).mono ?_; rintro r w5 ⟨rfl, rfl⟩)
          go_roundg (4 - (2 + 1) + 1)
          case measure => omega
          case rel => exact ⟨3, rfl, by omega, by omega, HB.out.store (by omega)⟩
        · have HS : Hid (_) := hs
          clear hs
          have dl := ((HB.out.lay).blk 1 (w.heap.size + 1) _ rfl rfl).lt
          have d0 := ((HB.out.lay).blk 1 (w.heap.size + 1) _ rfl rfl).cell 0 _ rfl
          have d1 := ((HB.out.lay).blk 1 (w.heap.size + 1) _ rfl rfl).cell 1 _ rfl
          have d2 := ((HB.out.lay).blk 1 (w.heap.size + 1) _ rfl rfl).cell 2 _ rfl
          have d3 := ((HB.out.lay).blk 1 (w.heap.size + 1) _ rfl rfl).cell 3 _ rfl
          go_wp2_with fail
          clear dl d0 d1 d2 d3
          go_loopg [13, 33] (n + 1) (fun g t s wr => ∃ k : Nat, t = .int .i64 ((F 2).tdiv (2 ^ k)) ∧ s = .int .i64 k ∧ n - k < g ∧ k ≤ n ∧ Hid (Rv w O F M S 2 wr))
          case atStart => exact ⟨0, by simp, rfl, by omega, by omega, HB⟩
          case round =>
            obtain ⟨k, rfl, rfl, hg2, hk, HB2⟩ := hrel
            clear HB
            obtain ⟨q1, q2⟩ := tdiv_I (f := F 2) ⟨f1, f2⟩ k
            by_cases hlt2 : k < n
            · have z1 : (k : Int) < (n : Int) := by omega
              have hs := tdiv_step (F 2) k
              have HT : Hid (_) := hs
              clear hs
              generalize (F 2).tdiv (2 ^ k) = A at q1 q2 HT ⊢
              go_wp2_with fail
              go_roundg (n - (k + 1) + 1)
              case measure => omega
              case rel => exact ⟨k + 1, by rw [HT.out], by go_num, by omega, by omega, HB2⟩
            · have z1 : ¬ (k : Int) < (n : Int) := by omega
              obtain rfl : k = n := by omega
              have HT : Hid (S 2 = _) := HS.out
              clear HS
              generalize (F 2).tdiv (2 ^ k) = A at q1 q2 HT ⊢
              have cl := ((HB2.out.lay).blk 0 (w.heap.size) _ rfl rfl).lt
              have c0 := ((HB2.out.lay).blk 0 (w.heap.size) _ rfl rfl).cell 0 _ rfl
              have c1 := ((HB2.out.lay).blk 0 (w.heap.size) _ rfl rfl).cell 1 _ rfl
              have c2 := ((HB2.out.lay).blk 0 (w.heap.size) _ rfl rfl).cell 2 _ rfl
              have c3 := ((HB2.out.lay).blk 0 (w.heap.size) _ rfl rfl).cell 3 _ rfl
              have cf0 := ((HB2.out.lay).blk 0 (w.heap.size) _ rfl rfl).froz 0 _ rfl
              have cf1 := ((HB2.out.lay).blk 0 (w.heap.size) _ rfl rfl).froz 1 _ rfl
              have cf2 := ((HB2.out.lay).blk 0 (w.heap.size) _ rfl rfl).froz 2 _ rfl
              have cf3 := ((HB2.out.lay).blk 0 (w.heap.size) _ rfl rfl).froz 3 _ rfl
              change _ = some (Value.int .i32 (O 2)) at c2
              have s1 := (s32_I ((O 2) - A)).1
              have s2 := (s32_I ((O 2) - A)).2
              go_wp2_with (first | (go_at_call 20; refine (rsat_any _ _).mono ?_; rintro r w5 ⟨rfl, rfl⟩) | (go_at_call 22; refine (rclamp_any _ _ _ (by omega) (by omega) (by omega) (by omega) (by omega) (by omega) _).mono ?_; rintro r w5 ⟨rfl, rfl⟩))
              go_roundg (4 - (2 + 1) + 1)
              case measure => omega
              case rel => exact ⟨3, rfl, by omega, by omega, by rw [← HT.out]; exact HB2.out.store (by omega)⟩
      · obtain ⟨⟨o1, o2⟩, f1, f2⟩ := HI.out 3 (by omega)
        rcases HP.out 3 (by omega) with ⟨he, hc⟩ | ⟨he, hs⟩
        · have CA : Hid (_) := hc
          clear hc
          have cl := ((HB.out.lay).blk 0 (w.heap.size) _ rfl rfl).lt
          have c0 := ((HB.out.lay).blk 0 (w.heap.size) _ rfl rfl).cell 0 _ rfl
          have c1 := ((HB.out.lay).blk 0 (w.heap.size) _ rfl rfl).cell 1 _ rfl
          have c2 := ((HB.out.lay).blk 0 (w.heap.size) _ rfl rfl).cell 2 _ rfl
          have c3 := ((HB.out.lay).blk 0 (w.heap.size) _ rfl rfl).cell 3 _ rfl
          have cf0 := ((HB.out.lay).blk 0 (w.heap.size) _ rfl rfl).froz 0 _ rfl
          have cf1 := ((HB.out.lay).blk 0 (w.heap.size) _ rfl rfl).froz 1 _ rfl
          have cf2 := ((HB.out.lay).blk 0 (w.heap.size) _ rfl rfl).froz 2 _ rfl
          have cf3 := ((HB.out.lay).blk 0 (w.heap.size) _ rfl rfl).froz 3 _ rfl
          go_wp2_with (go_at_call 21; refine (CA.out _).mono ?_; rintro r w5 ⟨rfl, rfl⟩)
          go_roundg (4 - (3 + 1) + 1)
          case measure => omega
          case rel => exact ⟨4, rfl, by omega, by omega, HB.out.store (by omega)⟩
        · have HS : Hid (_) := hs
          clear hs
          have dl := ((HB.out.lay).blk 1 (w.heap.size + 1) _ rfl rfl).lt
          have d0 := ((HB.out.lay).blk 1 (w.heap.size + 1) _ rfl rfl).cell 0 _ rfl
          have d1 := ((HB.out.lay).blk 1 (w.heap.size + 1) _ rfl rfl).cell 1 _ rfl
          have d2 := ((HB.out.lay).blk 1 (w.heap.size + 1) _ rfl rfl).cell 2 _ rfl
          have d3 := ((HB.out.lay).blk 1 (w.heap.size + 1) _ rfl rfl).cell 3 _ rfl
          go_wp2_with fail
          clear dl d0 d1 d2 d3
          go_loopg [13, 33] (n + 1) (fun g t s wr => ∃ k : Nat, t = .int .i64 ((F 3).tdiv (2 ^ k)) ∧ s = .int .i64 k ∧ n - k < g ∧ k ≤ n ∧ Hid (Rv w O F M S 3 wr))
          case atStart => exact ⟨0, by simp, rfl, by omega, by omega, HB⟩
          case round =>
            obtain ⟨k, rfl, rfl, hg2, hk, HB2⟩ := hrel
            clear HB
            obtain ⟨q1, q2⟩ := tdiv_I (f := F 3) ⟨f1, f2⟩ k
            by_cases hlt2 : k < n
            · have z1 : (k : Int) < (n : Int) := by omega
              have hs := tdiv_step (F 3) k
              have HT : Hid (_) := hs
              clear hs
              generalize (F 3).tdiv (2 ^ k) = A at q1 q2 HT ⊢
              go_wp2_with fail
              go_roundg (n - (k + 1) + 1)
              case measure => omega
              case rel => exact ⟨k + 1, by rw [HT.out], by go_num, by omega, by omega, HB2⟩
            · have z1 : ¬ (k : Int) < (n : Int) := by omega
              obtain rfl : k = n := by omega
              have HT : Hid (S 3 = _) := HS.out
              clear HS
              generalize (F 3).tdiv (2 ^ k) = A at q1 q2 HT ⊢
              have cl := ((HB2.out.lay).blk 0 (w.heap.size) _ rfl rfl).lt
              have c0 := ((HB2.out.lay).blk 0 (w.heap.size) _ rfl rfl).cell 0 _ rfl
              have c1 := ((HB2.out.lay).blk 0 (w.heap.size) _ rfl rfl).cell 1 _ rfl
              have c2 := ((HB2.out.lay).blk 0 (w.heap.size) _ rfl rfl).cell 2 _ rfl
              have c3 := ((HB2.out.lay).blk 0 (w.heap.size) _ rfl rfl).cell 3 _ rfl
              have cf0 := ((HB2.out.lay).blk 0 (w.heap.size) _ rfl rfl).froz 0 _ rfl
              have cf1 := ((HB2.out.lay).blk 0 (w.heap.size) _ rfl rfl).froz 1 _ rfl
              have cf2 := ((HB2.out.lay).blk 0 (w.heap.size) _ rfl rfl).froz 2 _ rfl
              have cf3 := ((HB2.out.lay).blk 0 (w.heap.size) _ rfl rfl).froz 3 _ rfl
              change _ = some (Value.int .i32 (O 3)) at c3
              have s1 := (s32_I ((O 3) - A)).1
              have s2 := (s32_I ((O 3) - A)).2
              go_wp2_with (first | (go_at_call 20; refine (rsat_any _ _).mono ?_; rintro r w5 ⟨rfl, rfl⟩) | (go_at_call 22; refine (rclamp_any _ _ _ (by omega) (by omega) (by omega) (by omega) (by omega) (by omega) _).mono ?_; rintro r w5 ⟨rfl, rfl⟩))
              go_roundg (4 - (3 + 1) + 1)
              case measure => omega
              case rel => exact ⟨4, rfl, by omega, by omega, by rw [← HT.out]; exact HB2.out.store (by omega)⟩
    · obtain rfl : j = 4 := by omega
      have cl := ((HB.out.lay).blk 0 (w.heap.size) _ rfl rfl).lt
      have c0 := ((HB.out.lay).blk 0 (w.heap.size) _ rfl rfl).cell 0 _ rfl
      have c1 := ((HB.out.lay).blk 0 (w.heap.size) _ rfl rfl).cell 1 _ rfl
      have c2 := ((HB.out.lay).blk 0 (w.heap.size) _ rfl rfl).cell 2 _ rfl
      have c3 := ((HB.out.lay).blk 0 (w.heap.size) _ rfl rfl).cell 3 _ rfl
      have xl := ((HB.out.lay).blk 3 (w.heap.size + 1 + 1 + 1) _ rfl rfl).lt
      have x0 := ((HB.out.lay).blk 3 (w.heap.size + 1 + 1 + 1) _ rfl rfl).cell 0 _ rfl
      have x1 := ((HB.out.lay).blk 3 (w.heap.size + 1 + 1 + 1) _ rfl rfl).cell 1 _ rfl
      have x2 := ((HB.out.lay).blk 3 (w.heap.size + 1 + 1 + 1) _ rfl rfl).cell 2 _ rfl
      have x3 := ((HB.out.lay).blk 3 (w.heap.size + 1 + 1 + 1) _ rfl rfl).cell 3 _ rfl
      have xf0 := ((HB.out.lay).blk 3 (w.heap.size + 1 + 1 + 1) _ rfl rfl).froz 0 _ rfl
      have xf1 := ((HB.out.lay).blk 3 (w.heap.size + 1 + 1 + 1) _ rfl rfl).froz 1 _ rfl
      have xf2 := ((HB.out.lay).blk 3 (w.heap.size + 1 + 1 + 1) _ rfl rfl).froz 2 _ rfl
      have xf3 := ((HB.out.lay).blk 3 (w.heap.size + 1 + 1 + 1) _ rfl rfl).froz 3 _ rfl
      go_wp2_with fail
      obtain ⟨w3, hw3, B3⟩ := HB.out.lay.put4 3 (w.heap.size + 1 + 1 + 1) (.int .i32 (mixI 4 0 (S 0) (O 0))) (.int .i32 (mixI 4 1 (S 1) (O 1))) (.int .i32 (mixI 4 2 (S 2) (O 2))) (.int .i32 (mixI 4 3 (S 3) (O 3))) rfl rfl
      rw [hw3]
      have fl := (B3.blk 3 (w.heap.size + 1 + 1 + 1) _ rfl rfl).lt
      have f0 := (B3.blk 3 (w.heap.size + 1 + 1 + 1) _ rfl rfl).cell 0 _ rfl
      have f1 := (B3.blk 3 (w.heap.size + 1 + 1 + 1) _ rfl rfl).cell 1 _ rfl
      have f2 := (B3.blk 3 (w.heap.size + 1 + 1 + 1) _ rfl rfl).cell 2 _ rfl
      have f3 := (B3.blk 3 (w.heap.size + 1 + 1 + 1) _ rfl rfl).cell 3 _ rfl
      refine bodyPost_ret (by simp [results, Try.results11, go_sem, f0, f1, f2, f3]; try rfl) rfl ?_
      exact ⟨rfl, B3.bel⟩

theorem rEvStep_any (o0 o1 o2 o3 p0 p1 p2 p3 a b c d m : Int) (n : Nat) (w : World) (hn : n ≤ 30) (m0 : 0 ≤ m) (hm : I32 m) (ho : Q4 o0 o1 o2 o3) (hp : Q4 p0 p1 p2 p3) : Calls Try.prog 11 #[.agg #[.int .i32 o0, .int .i32 o1, .int .i32 o2, .int .i32 o3], .agg #[.int .i32 p0, .int .i32 p1, .int .i32 p2, .int .i32 p3], .agg #[.int .i64 a, .int .i64 b, .int .i64 c, .int .i64 d], .int .i64 n, .int .i32 m] w fun e w' => e = .returned (.agg #[.int .i32 (evN a o0 p0 n m), .int .i32 (evN b o1 p1 n m), .int .i32 (evN c o2 p2 n m), .int .i32 (evN d o3 p3 n m)]) ∧ Below w.heap.size w w' := by
  exact rEvStep_core (q4 o0 o1 o2 o3) (q4 p0 p1 p2 p3) (q4 a b c d) (q4 (evN a o0 p0 n m) (evN b o1 p1 n m) (evN c o2 p2 n m) (evN d o3 p3 n m)) n m w m0 hm.2 hn (fun j hj => by
    obtain rfl | rfl | rfl | rfl := cases4 hj
    · exact ⟨ho.a, hp.a⟩
    · exact ⟨ho.b, hp.b⟩
    · exact ⟨ho.c, hp.c⟩
    · exact ⟨ho.d, hp.d⟩) (fun j hj => by
    obtain rfl | rfl | rfl | rfl := cases4 hj
    · exact lr_any ho.a hn
    · exact lr_any ho.b hn
    · exact lr_any ho.c hn
    · exact lr_any ho.d hn)

end Go.Proofs.Ytfbokeekkbdblaa
