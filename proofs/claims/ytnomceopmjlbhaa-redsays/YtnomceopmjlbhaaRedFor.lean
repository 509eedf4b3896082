/-
  Contracts of package red: freed, struck, armed, aged, manyActive. Of the memory that was there nothing turns.
-/
import Derived.Test.YtnomceopmjlbhaaRed
namespace Go.Proofs.Ytnomceopmjlbhaa
open Go.RowKit
set_option linter.unusedVariables false

theorem putS_at (A : Nat → St) (k : Nat) (s : St) : putS A k s k = s := if_pos rfl
theorem putS_putS (A : Nat → St) (k : Nat) (s u : St) : putS (putS A k s) k u = putS A k u := by
  funext i
  unfold putS
  split <;> rfl
theorem putS_self {A : Nat → St} {k : Nat} {s : St} (h : s = A k) : putS A k s = A := by
  funext i
  unfold putS
  split
  · rename_i e
    rw [h, e]
  · rfl
theorem upS_at (j : Nat) (t u : Nat → St) : upS j t u j = t j := if_neg (Nat.lt_irrefl _)
/-- how long a lane has been in its mode, stored into a team's box -/
theorem Bxs.laneFor {w : World} {L : List (Nat × List Value)} {W : World} (h : Bxs w L W) (i b : Nat) (A : Nat → St) (hi : L[i]? = some (b, [.int .i64 (A 0).m, .bool (A 0).f, .int .i64 (A 0).n, .int .i64 (A 1).m, .bool (A 1).f, .int .i64 (A 1).n, .int .i64 (A 2).m, .bool (A 2).f, .int .i64 (A 2).n, .int .i64 (A 3).m, .bool (A 3).f, .int .i64 (A 3).n])) (k : Nat) (hk : k < 4) (o2 : Nat) (e2 : o2 = 3 * k + 2) (n : Int) :
    ∃ w3, W.setCell ⟨b, o2, none⟩ (.int .i64 n) = w3 ∧ Bxs w (L.set i (b, [.int .i64 ((putS A k ⟨(A k).m, (A k).f, n⟩) 0).m, .bool ((putS A k ⟨(A k).m, (A k).f, n⟩) 0).f, .int .i64 ((putS A k ⟨(A k).m, (A k).f, n⟩) 0).n, .int .i64 ((putS A k ⟨(A k).m, (A k).f, n⟩) 1).m, .bool ((putS A k ⟨(A k).m, (A k).f, n⟩) 1).f, .int .i64 ((putS A k ⟨(A k).m, (A k).f, n⟩) 1).n, .int .i64 ((putS A k ⟨(A k).m, (A k).f, n⟩) 2).m, .bool ((putS A k ⟨(A k).m, (A k).f, n⟩) 2).f, .int .i64 ((putS A k ⟨(A k).m, (A k).f, n⟩) 2).n, .int .i64 ((putS A k ⟨(A k).m, (A k).f, n⟩) 3).m, .bool ((putS A k ⟨(A k).m, (A k).f, n⟩) 3).f, .int .i64 ((putS A k ⟨(A k).m, (A k).f, n⟩) 3).n])) w3 := by
  subst e2
  refine ⟨_, rfl, ?_⟩
  have h1 := h.set i b (3 * k + 2) _ (.int .i64 n) hi (by simp; omega)
  obtain rfl | rfl | rfl | rfl := cases4 hk <;> exact h1

set_option maxHeartbeats 8000000 in
set_option maxRecDepth 100000 in
theorem rfreed_core (t u : Nat → St) (w : World) (HC : Hid (∀ j, j < 4 → (((t j).m == 3) = true ∧ ∀ W, Calls Try.prog 26 #[.agg #[.int .i64 (t j).m, .bool (t j).f, .int .i64 (t j).n], .int .i64 6] W fun r w' => r = .returned (.agg #[.int .i64 (u j).m, .bool (u j).f, .int .i64 (u j).n]) ∧ Below W.heap.size W w') ∨ (((t j).m == 3) = false ∧ u j = t j))) :
    Calls Try.prog 23 #[.agg #[.int .i64 (t 0).m, .bool (t 0).f, .int .i64 (t 0).n, .int .i64 (t 1).m, .bool (t 1).f, .int .i64 (t 1).n, .int .i64 (t 2).m, .bool (t 2).f, .int .i64 (t 2).n, .int .i64 (t 3).m, .bool (t 3).f, .int .i64 (t 3).n]] w fun r w' => r = .returned (.agg #[.int .i64 (u 0).m, .bool (u 0).f, .int .i64 (u 0).n, .int .i64 (u 1).m, .bool (u 1).f, .int .i64 (u 1).n, .int .i64 (u 2).m, .bool (u 2).f, .int .i64 (u 2).n, .int .i64 (u 3).m, .bool (u 3).f, .int .i64 (u 3).n]) ∧ Below w.heap.size w w' := by
  have B0 : Hid (Bxs w [(w.heap.size, [.int .i64 ((upS 0 t u) 0).m, .bool ((upS 0 t u) 0).f, .int .i64 ((upS 0 t u) 0).n, .int .i64 ((upS 0 t u) 1).m, .bool ((upS 0 t u) 1).f, .int .i64 ((upS 0 t u) 1).n, .int .i64 ((upS 0 t u) 2).m, .bool ((upS 0 t u) 2).f, .int .i64 ((upS 0 t u) 2).n, .int .i64 ((upS 0 t u) 3).m, .bool ((upS 0 t u) 3).f, .int .i64 ((upS 0 t u) 3).n]), (w.heap.size + 1, [.int .i64 0, .bool false, .int .i64 0, .int .i64 0, .bool false, .int .i64 0, .int .i64 0, .bool false, .int .i64 0, .int .i64 0, .bool false, .int .i64 0])] _) := bxs_two w #[.int .i64 (t 0).m, .bool (t 0).f, .int .i64 (t 0).n, .int .i64 (t 1).m, .bool (t 1).f, .int .i64 (t 1).n, .int .i64 (t 2).m, .bool (t 2).f, .int .i64 (t 2).n, .int .i64 (t 3).m, .bool (t 3).f, .int .i64 (t 3).n] #[.int .i64 0, .bool false, .int .i64 0, .int .i64 0, .bool false, .int .i64 0, .int .i64 0, .bool false, .int .i64 0, .int .i64 0, .bool false, .int .i64 0] 25 25
  obtain ⟨i0, i1, i2, i3⟩ := ixT t
  go_enter Try.func23, Try.ntmps23
  go_wp2_with fail
  go_loopg [6] (5) (fun g s wr => ∃ j : Nat, s = .int .i64 j ∧ 4 - j < g ∧ j ≤ 4 ∧ Hid (Bxs w [(w.heap.size, [.int .i64 ((upS j t u) 0).m, .bool ((upS j t u) 0).f, .int .i64 ((upS j t u) 0).n, .int .i64 ((upS j t u) 1).m, .bool ((upS j t u) 1).f, .int .i64 ((upS j t u) 1).n, .int .i64 ((upS j t u) 2).m, .bool ((upS j t u) 2).f, .int .i64 ((upS j t u) 2).n, .int .i64 ((upS j t u) 3).m, .bool ((upS j t u) 3).f, .int .i64 ((upS j t u) 3).n]), (w.heap.size + 1, [.int .i64 0, .bool false, .int .i64 0, .int .i64 0, .bool false, .int .i64 0, .int .i64 0, .bool false, .int .i64 0, .int .i64 0, .bool false, .int .i64 0])] wr))
  case atStart => exact ⟨0, rfl, by omega, by omega, B0⟩
  case round =>
    obtain ⟨j, rfl, hg, hj, HB⟩ := hrel
    clear B0
    by_cases hlt : j < 4
    · obtain rfl | rfl | rfl | rfl := cases4 hlt
      · rcases HC.out 0 (by omega) with ⟨he, hc⟩ | ⟨he, hc⟩
        · have CK : Hid (_) := hc
          clear hc
          go_wp2_with fail
          refine (CK.out _).mono ?_
          rintro r w5 ⟨rfl, hb⟩
          have HB2 : Hid (_) := (HB.out.alloc _).step hb
          clear hb HB CK
          have cl := (HB2.out.box 0 _ _ rfl).lt
          have c0 := (HB2.out.box 0 _ _ rfl).cell 0 _ rfl
          have c1 := (HB2.out.box 0 _ _ rfl).cell 1 _ rfl
          have c2 := (HB2.out.box 0 _ _ rfl).cell 2 _ rfl
          have c3 := (HB2.out.box 0 _ _ rfl).cell 3 _ rfl
          have c4 := (HB2.out.box 0 _ _ rfl).cell 4 _ rfl
          have c5 := (HB2.out.box 0 _ _ rfl).cell 5 _ rfl
          have c6 := (HB2.out.box 0 _ _ rfl).cell 6 _ rfl
          have c7 := (HB2.out.box 0 _ _ rfl).cell 7 _ rfl
          have c8 := (HB2.out.box 0 _ _ rfl).cell 8 _ rfl
          have c9 := (HB2.out.box 0 _ _ rfl).cell 9 _ rfl
          have c10 := (HB2.out.box 0 _ _ rfl).cell 10 _ rfl
          have c11 := (HB2.out.box 0 _ _ rfl).cell 11 _ rfl
          have cf0 := (HB2.out.box 0 _ _ rfl).froz 0 _ rfl
          have cf1 := (HB2.out.box 0 _ _ rfl).froz 1 _ rfl
          have cf2 := (HB2.out.box 0 _ _ rfl).froz 2 _ rfl
          have cf3 := (HB2.out.box 0 _ _ rfl).froz 3 _ rfl
          have cf4 := (HB2.out.box 0 _ _ rfl).froz 4 _ rfl
          have cf5 := (HB2.out.box 0 _ _ rfl).froz 5 _ rfl
          have cf6 := (HB2.out.box 0 _ _ rfl).froz 6 _ rfl
          have cf7 := (HB2.out.box 0 _ _ rfl).froz 7 _ rfl
          have cf8 := (HB2.out.box 0 _ _ rfl).froz 8 _ rfl
          have cf9 := (HB2.out.box 0 _ _ rfl).froz 9 _ rfl
          have cf10 := (HB2.out.box 0 _ _ rfl).froz 10 _ rfl
          have cf11 := (HB2.out.box 0 _ _ rfl).froz 11 _ rfl
          go_wp2_with fail
          obtain ⟨w6, hw6, HB3⟩ := HB2.out.lane 0 _ (upS 0 t u) rfl 0 (by omega) 0 1 2 rfl rfl rfl (u 0)
          rw [hw6]
          rw [putS_up] at HB3
          clear hw6
          go_roundg (4 - (0 + 1) + 1)
          case measure => omega
          case rel => exact ⟨1, rfl, by omega, by omega, HB3⟩
        · have HU : Hid (_) := hc
          clear hc
          go_wp2_with fail
          have HB3 := HB.out.alloc (.cells #[.int .i64 (t 0).m, .bool (t 0).f, .int .i64 (t 0).n] 23)
          rw [← upS_same HU.out] at HB3
          go_roundg (4 - (0 + 1) + 1)
          case measure => omega
          case rel => exact ⟨1, rfl, by omega, by omega, HB3⟩
      · rcases HC.out 1 (by omega) with ⟨he, hc⟩ | ⟨he, hc⟩
        · have CK : Hid (_) := hc
          clear hc
          go_wp2_with fail
          refine (CK.out _).mono ?_
          rintro r w5 ⟨rfl, hb⟩
          have HB2 : Hid (_) := (HB.out.alloc _).step hb
          clear hb HB CK
          have cl := (HB2.out.box 0 _ _ rfl).lt
          have c0 := (HB2.out.box 0 _ _ rfl).cell 0 _ rfl
          have c1 := (HB2.out.box 0 _ _ rfl).cell 1 _ rfl
          have c2 := (HB2.out.box 0 _ _ rfl).cell 2 _ rfl
          have c3 := (HB2.out.box 0 _ _ rfl).cell 3 _ rfl
          have c4 := (HB2.out.box 0 _ _ rfl).cell 4 _ rfl
          have c5 := (HB2.out.box 0 _ _ rfl).cell 5 _ rfl
          have c6 := (HB2.out.box 0 _ _ rfl).cell 6 _ rfl
          have c7 := (HB2.out.box 0 _ _ rfl).cell 7 _ rfl
          have c8 := (HB2.out.box 0 _ _ rfl).cell 8 _ rfl
          have c9 := (HB2.out.box 0 _ _ rfl).cell 9 _ rfl
          have c10 := (HB2.out.box 0 _ _ rfl).cell 10 _ rfl
          have c11 := (HB2.out.box 0 _ _ rfl).cell 11 _ rfl
          have cf0 := (HB2.out.box 0 _ _ rfl).froz 0 _ rfl
          have cf1 := (HB2.out.box 0 _ _ rfl).froz 1 _ rfl
          have cf2 := (HB2.out.box 0 _ _ rfl).froz 2 _ rfl
          have cf3 := (HB2.out.box 0 _ _ rfl).froz 3 _ rfl
          have cf4 := (HB2.out.box 0 _ _ rfl).froz 4 _ rfl
          have cf5 := (HB2.out.box 0 _ _ rfl).froz 5 _ rfl
          have cf6 := (HB2.out.box 0 _ _ rfl).froz 6 _ rfl
          have cf7 := (HB2.out.box 0 _ _ rfl).froz 7 _ rfl
          have cf8 := (HB2.out.box 0 _ _ rfl).froz 8 _ rfl
          have cf9 := (HB2.out.box 0 _ _ rfl).froz 9 _ rfl
          have cf10 := (HB2.out.box 0 _ _ rfl).froz 10 _ rfl
          have cf11 := (HB2.out.box 0 _ _ rfl).froz 11 _ rfl
          go_wp2_with fail
          obtain ⟨w6, hw6, HB3⟩ := HB2.out.lane 0 _ (upS 1 t u) rfl 1 (by omega) 3 4 5 rfl rfl rfl (u 1)
          rw [hw6]
          rw [putS_up] at HB3
          clear hw6
          go_roundg (4 - (1 + 1) + 1)
          case measure => omega
          case rel => exact ⟨2, rfl, by omega, by omega, HB3⟩
        · have HU : Hid (_) := hc
          clear hc
          go_wp2_with fail
          have HB3 := HB.out.alloc (.cells #[.int .i64 (t 1).m, .bool (t 1).f, .int .i64 (t 1).n] 23)
          rw [← upS_same HU.out] at HB3
          go_roundg (4 - (1 + 1) + 1)
          case measure => omega
          case rel => exact ⟨2, rfl, by omega, by omega, HB3⟩
      · rcases HC.out 2 (by omega) with ⟨he, hc⟩ | ⟨he, hc⟩
        · have CK : Hid (_) := hc
          clear hc
          go_wp2_with fail
          refine (CK.out _).mono ?_
          rintro r w5 ⟨rfl, hb⟩
          have HB2 : Hid (_) := (HB.out.alloc _).step hb
          clear hb HB CK
          have cl := (HB2.out.box 0 _ _ rfl).lt
          have c0 := (HB2.out.box 0 _ _ rfl).cell 0 _ rfl
          have c1 := (HB2.out.box 0 _ _ rfl).cell 1 _ rfl
          have c2 := (HB2.out.box 0 _ _ rfl).cell 2 _ rfl
          have c3 := (HB2.out.box 0 _ _ rfl).cell 3 _ rfl
          have c4 := (HB2.out.box 0 _ _ rfl).cell 4 _ rfl
          have c5 := (HB2.out.box 0 _ _ rfl).cell 5 _ rfl
          have c6 := (HB2.out.box 0 _ _ rfl).cell 6 _ rfl
          have c7 := (HB2.out.box 0 _ _ rfl).cell 7 _ rfl
          have c8 := (HB2.out.box 0 _ _ rfl).cell 8 _ rfl
          have c9 := (HB2.out.box 0 _ _ rfl).cell 9 _ rfl
          have c10 := (HB2.out.box 0 _ _ rfl).cell 10 _ rfl
          have c11 := (HB2.out.box 0 _ _ rfl).cell 11 _ rfl
          have cf0 := (HB2.out.box 0 _ _ rfl).froz 0 _ rfl
          have cf1 := (HB2.out.box 0 _ _ rfl).froz 1 _ rfl
          have cf2 := (HB2.out.box 0 _ _ rfl).froz 2 _ rfl
          have cf3 := (HB2.out.box 0 _ _ rfl).froz 3 _ rfl
          have cf4 := (HB2.out.box 0 _ _ rfl).froz 4 _ rfl
          have cf5 := (HB2.out.box 0 _ _ rfl).froz 5 _ rfl
          have cf6 := (HB2.out.box 0 _ _ rfl).froz 6 _ rfl
          have cf7 := (HB2.out.box 0 _ _ rfl).froz 7 _ rfl
          have cf8 := (HB2.out.box 0 _ _ rfl).froz 8 _ rfl
          have cf9 := (HB2.out.box 0 _ _ rfl).froz 9 _ rfl
          have cf10 := (HB2.out.box 0 _ _ rfl).froz 10 _ rfl
          have cf11 := (HB2.out.box 0 _ _ rfl).froz 11 _ rfl
          go_wp2_with fail
          obtain ⟨w6, hw6, HB3⟩ := HB2.out.lane 0 _ (upS 2 t u) rfl 2 (by omega) 6 7 8 rfl rfl rfl (u 2)
          rw [hw6]
          rw [putS_up] at HB3
          clear hw6
          go_roundg (4 - (2 + 1) + 1)
          case measure => omega
          case rel => exact ⟨3, rfl, by omega, by omega, HB3⟩
        · have HU : Hid (_) := hc
          clear hc
          go_wp2_with fail
          have HB3 := HB.out.alloc (.cells #[.int .i64 (t 2).m, .bool (t 2).f, .int .i64 (t 2).n] 23)
          rw [← upS_same HU.out] at HB3
          go_roundg (4 - (2 + 1) + 1)
          case measure => omega
          case rel => exact ⟨3, rfl, by omega, by omega, HB3⟩
      · rcases HC.out 3 (by omega) with ⟨he, hc⟩ | ⟨he, hc⟩
        · have CK : Hid (_) := hc
          clear hc
          go_wp2_with fail
          refine (CK.out _).mono ?_
          rintro r w5 ⟨rfl, hb⟩
          have HB2 : Hid (_) := (HB.out.alloc _).step hb
          clear hb HB CK
          have cl := (HB2.out.box 0 _ _ rfl).lt
          have c0 := (HB2.out.box 0 _ _ rfl).cell 0 _ rfl
          have c1 := (HB2.out.box 0 _ _ rfl).cell 1 _ rfl
          have c2 := (HB2.out.box 0 _ _ rfl).cell 2 _ rfl
          have c3 := (HB2.out.box 0 _ _ rfl).cell 3 _ rfl
          have c4 := (HB2.out.box 0 _ _ rfl).cell 4 _ rfl
          have c5 := (HB2.out.box 0 _ _ rfl).cell 5 _ rfl
          have c6 := (HB2.out.box 0 _ _ rfl).cell 6 _ rfl
          have c7 := (HB2.out.box 0 _ _ rfl).cell 7 _ rfl
          have c8 := (HB2.out.box 0 _ _ rfl).cell 8 _ rfl
          have c9 := (HB2.out.box 0 _ _ rfl).cell 9 _ rfl
          have c10 := (HB2.out.box 0 _ _ rfl).cell 10 _ rfl
          have c11 := (HB2.out.box 0 _ _ rfl).cell 11 _ rfl
          have cf0 := (HB2.out.box 0 _ _ rfl).froz 0 _ rfl
          have cf1 := (HB2.out.box 0 _ _ rfl).froz 1 _ rfl
          have cf2 := (HB2.out.box 0 _ _ rfl).froz 2 _ rfl
          have cf3 := (HB2.out.box 0 _ _ rfl).froz 3 _ rfl
          have cf4 := (HB2.out.box 0 _ _ rfl).froz 4 _ rfl
          have cf5 := (HB2.out.box 0 _ _ rfl).froz 5 _ rfl
          have cf6 := (HB2.out.box 0 _ _ rfl).froz 6 _ rfl
          have cf7 := (HB2.out.box 0 _ _ rfl).froz 7 _ rfl
          have cf8 := (HB2.out.box 0 _ _ rfl).froz 8 _ rfl
          have cf9 := (HB2.out.box 0 _ _ rfl).froz 9 _ rfl
          have cf10 := (HB2.out.box 0 _ _ rfl).froz 10 _ rfl
          have cf11 := (HB2.out.box 0 _ _ rfl).froz 11 _ rfl
          go_wp2_with fail
          obtain ⟨w6, hw6, HB3⟩ := HB2.out.lane 0 _ (upS 3 t u) rfl 3 (by omega) 9 10 11 rfl rfl rfl (u 3)
          rw [hw6]
          rw [putS_up] at HB3
          clear hw6
          go_roundg (4 - (3 + 1) + 1)
          case measure => omega
          case rel => exact ⟨4, rfl, by omega, by omega, HB3⟩
        · have HU : Hid (_) := hc
          clear hc
          go_wp2_with fail
          have HB3 := HB.out.alloc (.cells #[.int .i64 (t 3).m, .bool (t 3).f, .int .i64 (t 3).n] 23)
          rw [← upS_same HU.out] at HB3
          go_roundg (4 - (3 + 1) + 1)
          case measure => omega
          case rel => exact ⟨4, rfl, by omega, by omega, HB3⟩
    · obtain rfl : j = 4 := by omega
      have cl := (HB.out.box 0 _ _ rfl).lt
      have c0 := (HB.out.box 0 _ _ rfl).cell 0 _ rfl
      have c1 := (HB.out.box 0 _ _ rfl).cell 1 _ rfl
      have c2 := (HB.out.box 0 _ _ rfl).cell 2 _ rfl
      have c3 := (HB.out.box 0 _ _ rfl).cell 3 _ rfl
      have c4 := (HB.out.box 0 _ _ rfl).cell 4 _ rfl
      have c5 := (HB.out.box 0 _ _ rfl).cell 5 _ rfl
      have c6 := (HB.out.box 0 _ _ rfl).cell 6 _ rfl
      have c7 := (HB.out.box 0 _ _ rfl).cell 7 _ rfl
      have c8 := (HB.out.box 0 _ _ rfl).cell 8 _ rfl
      have c9 := (HB.out.box 0 _ _ rfl).cell 9 _ rfl
      have c10 := (HB.out.box 0 _ _ rfl).cell 10 _ rfl
      have c11 := (HB.out.box 0 _ _ rfl).cell 11 _ rfl
      have dl := (HB.out.box 1 _ _ rfl).lt
      have d0 := (HB.out.box 1 _ _ rfl).cell 0 _ rfl
      have d1 := (HB.out.box 1 _ _ rfl).cell 1 _ rfl
      have d2 := (HB.out.box 1 _ _ rfl).cell 2 _ rfl
      have d3 := (HB.out.box 1 _ _ rfl).cell 3 _ rfl
      have d4 := (HB.out.box 1 _ _ rfl).cell 4 _ rfl
      have d5 := (HB.out.box 1 _ _ rfl).cell 5 _ rfl
      have d6 := (HB.out.box 1 _ _ rfl).cell 6 _ rfl
      have d7 := (HB.out.box 1 _ _ rfl).cell 7 _ rfl
      have d8 := (HB.out.box 1 _ _ rfl).cell 8 _ rfl
      have d9 := (HB.out.box 1 _ _ rfl).cell 9 _ rfl
      have d10 := (HB.out.box 1 _ _ rfl).cell 10 _ rfl
      have d11 := (HB.out.box 1 _ _ rfl).cell 11 _ rfl
      have df0 := (HB.out.box 1 _ _ rfl).froz 0 _ rfl
      have df1 := (HB.out.box 1 _ _ rfl).froz 1 _ rfl
      have df2 := (HB.out.box 1 _ _ rfl).froz 2 _ rfl
      have df3 := (HB.out.box 1 _ _ rfl).froz 3 _ rfl
      have df4 := (HB.out.box 1 _ _ rfl).froz 4 _ rfl
      have df5 := (HB.out.box 1 _ _ rfl).froz 5 _ rfl
      have df6 := (HB.out.box 1 _ _ rfl).froz 6 _ rfl
      have df7 := (HB.out.box 1 _ _ rfl).froz 7 _ rfl
      have df8 := (HB.out.box 1 _ _ rfl).froz 8 _ rfl
      have df9 := (HB.out.box 1 _ _ rfl).froz 9 _ rfl
      have df10 := (HB.out.box 1 _ _ rfl).froz 10 _ rfl
      have df11 := (HB.out.box 1 _ _ rfl).froz 11 _ rfl
      go_wp2_with fail
      obtain ⟨w6, hw6, HB3⟩ := HB.out.team 1 _ _ (upS 4 t u) rfl rfl
      rw [hw6]
      have yl := (HB3.box 1 _ _ rfl).lt
      have y0 := (HB3.box 1 _ _ rfl).cell 0 _ rfl
      have y1 := (HB3.box 1 _ _ rfl).cell 1 _ rfl
      have y2 := (HB3.box 1 _ _ rfl).cell 2 _ rfl
      have y3 := (HB3.box 1 _ _ rfl).cell 3 _ rfl
      have y4 := (HB3.box 1 _ _ rfl).cell 4 _ rfl
      have y5 := (HB3.box 1 _ _ rfl).cell 5 _ rfl
      have y6 := (HB3.box 1 _ _ rfl).cell 6 _ rfl
      have y7 := (HB3.box 1 _ _ rfl).cell 7 _ rfl
      have y8 := (HB3.box 1 _ _ rfl).cell 8 _ rfl
      have y9 := (HB3.box 1 _ _ rfl).cell 9 _ rfl
      have y10 := (HB3.box 1 _ _ rfl).cell 10 _ rfl
      have y11 := (HB3.box 1 _ _ rfl).cell 11 _ rfl
      refine bodyPost_ret (by simp [results, Try.results23, go_sem, y0, y1, y2, y3, y4, y5, y6, y7, y8, y9, y10, y11]; try rfl) rfl ?_
      exact ⟨rfl, HB3.bel⟩

theorem bxs_three (w : World) (a b c : Array Value) (t1 t2 t3 : TypeId) : Bxs w [(w.heap.size, a.toList), (w.heap.size + 1, b.toList), (w.heap.size + 1 + 1, c.toList)] (((w.alloc (.cells a t1)).alloc (.cells b t2)).alloc (.cells c t3)) := by
  have := (((bxs_nil w).push a t1).push b t2).push c t3
  simp only [lay_size] at this
  exact this
theorem bxs_four (w : World) (a b c d : Array Value) (t1 t2 t3 t4 : TypeId) : Bxs w [(w.heap.size, a.toList), (w.heap.size + 1, b.toList), (w.heap.size + 1 + 1, c.toList), (w.heap.size + 1 + 1 + 1, d.toList)] ((((w.alloc (.cells a t1)).alloc (.cells b t2)).alloc (.cells c t3)).alloc (.cells d t4)) := by
  have := ((((bxs_nil w).push a t1).push b t2).push c t3).push d t4
  simp only [lay_size] at this
  exact this

set_option maxHeartbeats 16000000 in
set_option maxRecDepth 100000 in
theorem rstruck_core (t a u : Nat → St) (o f : Nat → Bool) (w : World)
    (HA : Hid (∀ j, j < 4 → (f j = true ∧ ∀ W, Calls Try.prog 26 #[.agg #[.int .i64 (t j).m, .bool (t j).f, .int .i64 (t j).n], .int .i64 3] W fun r w' => r = .returned (.agg #[.int .i64 (a j).m, .bool (a j).f, .int .i64 (a j).n]) ∧ Below W.heap.size W w') ∨ (f j = false ∧ a j = t j)))
    (HC : Hid (∀ j, j < 4 → (o j = false ∧ ∀ W, Calls Try.prog 26 #[.agg #[.int .i64 (a j).m, .bool (a j).f, .int .i64 (a j).n], .int .i64 4] W fun r w' => r = .returned (.agg #[.int .i64 (u j).m, .bool (u j).f, .int .i64 (u j).n]) ∧ Below W.heap.size W w') ∨ (o j = true ∧ u j = a j))) :
    Calls Try.prog 20 #[.agg #[.int .i64 (t 0).m, .bool (t 0).f, .int .i64 (t 0).n, .int .i64 (t 1).m, .bool (t 1).f, .int .i64 (t 1).n, .int .i64 (t 2).m, .bool (t 2).f, .int .i64 (t 2).n, .int .i64 (t 3).m, .bool (t 3).f, .int .i64 (t 3).n], .agg #[.bool (o 0), .bool (o 1), .bool (o 2), .bool (o 3)], .agg #[.bool (f 0), .bool (f 1), .bool (f 2), .bool (f 3)]] w fun r w' => r = .returned (.agg #[.int .i64 (u 0).m, .bool (u 0).f, .int .i64 (u 0).n, .int .i64 (u 1).m, .bool (u 1).f, .int .i64 (u 1).n, .int .i64 (u 2).m, .bool (u 2).f, .int .i64 (u 2).n, .int .i64 (u 3).m, .bool (u 3).f, .int .i64 (u 3).n]) ∧ Below w.heap.size w w' := by
  have B0 : Hid (Bxs w [(w.heap.size, [.int .i64 ((upS 0 t u) 0).m, .bool ((upS 0 t u) 0).f, .int .i64 ((upS 0 t u) 0).n, .int .i64 ((upS 0 t u) 1).m, .bool ((upS 0 t u) 1).f, .int .i64 ((upS 0 t u) 1).n, .int .i64 ((upS 0 t u) 2).m, .bool ((upS 0 t u) 2).f, .int .i64 ((upS 0 t u) 2).n, .int .i64 ((upS 0 t u) 3).m, .bool ((upS 0 t u) 3).f, .int .i64 ((upS 0 t u) 3).n]), (w.heap.size + 1, [.bool (o 0), .bool (o 1), .bool (o 2), .bool (o 3)]), (w.heap.size + 1 + 1, [.bool (f 0), .bool (f 1), .bool (f 2), .bool (f 3)]), (w.heap.size + 1 + 1 + 1, [.int .i64 0, .bool false, .int .i64 0, .int .i64 0, .bool false, .int .i64 0, .int .i64 0, .bool false, .int .i64 0, .int .i64 0, .bool false, .int .i64 0])] _) := bxs_four w #[.int .i64 (t 0).m, .bool (t 0).f, .int .i64 (t 0).n, .int .i64 (t 1).m, .bool (t 1).f, .int .i64 (t 1).n, .int .i64 (t 2).m, .bool (t 2).f, .int .i64 (t 2).n, .int .i64 (t 3).m, .bool (t 3).f, .int .i64 (t 3).n] #[.bool (o 0), .bool (o 1), .bool (o 2), .bool (o 3)] #[.bool (f 0), .bool (f 1), .bool (f 2), .bool (f 3)] #[.int .i64 0, .bool false, .int .i64 0, .int .i64 0, .bool false, .int .i64 0, .int .i64 0, .bool false, .int .i64 0, .int .i64 0, .bool false, .int .i64 0] 25 26 26 25
  go_enter Try.func20, Try.ntmps20
  go_wp2_with fail
  go_loopg [8] (5) (fun g s wr => ∃ j : Nat, s = .int .i64 j ∧ 4 - j < g ∧ j ≤ 4 ∧ Hid (Bxs w [(w.heap.size, [.int .i64 ((upS j t u) 0).m, .bool ((upS j t u) 0).f, .int .i64 ((upS j t u) 0).n, .int .i64 ((upS j t u) 1).m, .bool ((upS j t u) 1).f, .int .i64 ((upS j t u) 1).n, .int .i64 ((upS j t u) 2).m, .bool ((upS j t u) 2).f, .int .i64 ((upS j t u) 2).n, .int .i64 ((upS j t u) 3).m, .bool ((upS j t u) 3).f, .int .i64 ((upS j t u) 3).n]), (w.heap.size + 1, [.bool (o 0), .bool (o 1), .bool (o 2), .bool (o 3)]), (w.heap.size + 1 + 1, [.bool (f 0), .bool (f 1), .bool (f 2), .bool (f 3)]), (w.heap.size + 1 + 1 + 1, [.int .i64 0, .bool false, .int .i64 0, .int .i64 0, .bool false, .int .i64 0, .int .i64 0, .bool false, .int .i64 0, .int .i64 0, .bool false, .int .i64 0])] wr))
  case atStart => exact ⟨0, rfl, by omega, by omega, B0⟩
  case round =>
    obtain ⟨j, rfl, hg, hj, HB'⟩ := hrel
    clear B0
    obtain ⟨A, hA⟩ : ∃ A, A = upS j t u := ⟨_, rfl⟩
    have HB : Hid (Bxs w [(w.heap.size, [.int .i64 (A 0).m, .bool (A 0).f, .int .i64 (A 0).n, .int .i64 (A 1).m, .bool (A 1).f, .int .i64 (A 1).n, .int .i64 (A 2).m, .bool (A 2).f, .int .i64 (A 2).n, .int .i64 (A 3).m, .bool (A 3).f, .int .i64 (A 3).n]), (w.heap.size + 1, [.bool (o 0), .bool (o 1), .bool (o 2), .bool (o 3)]), (w.heap.size + 1 + 1, [.bool (f 0), .bool (f 1), .bool (f 2), .bool (f 3)]), (w.heap.size + 1 + 1 + 1, [.int .i64 0, .bool false, .int .i64 0, .int .i64 0, .bool false, .int .i64 0, .int .i64 0, .bool false, .int .i64 0, .int .i64 0, .bool false, .int .i64 0])] wr) := by rw [hA]; exact HB'.out
    have HT : Hid (t j = A j) := by rw [hA]; exact (upS_at j t u).symm
    have HN : Hid (putS A j (u j) = upS (j + 1) t u) := by rw [hA]; exact putS_up t u j
    have HZ : Hid (A = upS j t u) := hA
    clear hA HB'
    by_cases hlt : j < 4
    · obtain rfl | rfl | rfl | rfl := cases4 hlt
      · rcases HA.out 0 (by omega) with ⟨hf, hc⟩ | ⟨hf, hc⟩
        · rw [HT.out] at hc
          have CK : Hid (_) := hc
          clear hc
          have cl := (HB.out.box 0 _ _ rfl).lt
          have c0 := (HB.out.box 0 _ _ rfl).cell 0 _ rfl
          have c1 := (HB.out.box 0 _ _ rfl).cell 1 _ rfl
          have c2 := (HB.out.box 0 _ _ rfl).cell 2 _ rfl
          have c3 := (HB.out.box 0 _ _ rfl).cell 3 _ rfl
          have c4 := (HB.out.box 0 _ _ rfl).cell 4 _ rfl
          have c5 := (HB.out.box 0 _ _ rfl).cell 5 _ rfl
          have c6 := (HB.out.box 0 _ _ rfl).cell 6 _ rfl
          have c7 := (HB.out.box 0 _ _ rfl).cell 7 _ rfl
          have c8 := (HB.out.box 0 _ _ rfl).cell 8 _ rfl
          have c9 := (HB.out.box 0 _ _ rfl).cell 9 _ rfl
          have c10 := (HB.out.box 0 _ _ rfl).cell 10 _ rfl
          have c11 := (HB.out.box 0 _ _ rfl).cell 11 _ rfl
          have el := (HB.out.box 2 _ _ rfl).lt
          have e0 := (HB.out.box 2 _ _ rfl).cell 0 _ rfl
          have e1 := (HB.out.box 2 _ _ rfl).cell 1 _ rfl
          have e2 := (HB.out.box 2 _ _ rfl).cell 2 _ rfl
          have e3 := (HB.out.box 2 _ _ rfl).cell 3 _ rfl
          rw [hf] at e0
          clear hf
          go_wp2_with fail
          refine (CK.out _).mono ?_
          rintro r w5 ⟨rfl, hb⟩
          have HB2 : Hid (_) := HB.out.step hb
          clear hb HB CK
          clear cl c0 c1 c2 c3 c4 c5 c6 c7 c8 c9 c10 c11
          clear el e0 e1 e2 e3
          obtain ⟨w6, hw6, HB3'⟩ := HB2.out.lane 0 _ A rfl 0 (by omega) 0 1 2 rfl rfl rfl (a 0)
          obtain ⟨B, hB⟩ : ∃ B, B = putS A 0 (a 0) := ⟨_, rfl⟩
          rw [← hB] at HB3'
          have HB3 : Hid (Bxs w [(w.heap.size, [.int .i64 (B 0).m, .bool (B 0).f, .int .i64 (B 0).n, .int .i64 (B 1).m, .bool (B 1).f, .int .i64 (B 1).n, .int .i64 (B 2).m, .bool (B 2).f, .int .i64 (B 2).n, .int .i64 (B 3).m, .bool (B 3).f, .int .i64 (B 3).n]), (w.heap.size + 1, [.bool (o 0), .bool (o 1), .bool (o 2), .bool (o 3)]), (w.heap.size + 1 + 1, [.bool (f 0), .bool (f 1), .bool (f 2), .bool (f 3)]), (w.heap.size + 1 + 1 + 1, [.int .i64 0, .bool false, .int .i64 0, .int .i64 0, .bool false, .int .i64 0, .int .i64 0, .bool false, .int .i64 0, .int .i64 0, .bool false, .int .i64 0])] w6) := HB3'
          have HM : Hid (a 0 = B 0) := by rw [hB]; exact (putS_at _ _ _).symm
          have HQ : Hid (putS B 0 (u 0) = upS (0 + 1) t u) := by rw [hB, putS_putS]; exact HN.out
          clear HB3' hB HN
          have cl := (HB2.out.box 0 _ _ rfl).lt
          have c0 := (HB2.out.box 0 _ _ rfl).cell 0 _ rfl
          have c1 := (HB2.out.box 0 _ _ rfl).cell 1 _ rfl
          have c2 := (HB2.out.box 0 _ _ rfl).cell 2 _ rfl
          have c3 := (HB2.out.box 0 _ _ rfl).cell 3 _ rfl
          have c4 := (HB2.out.box 0 _ _ rfl).cell 4 _ rfl
          have c5 := (HB2.out.box 0 _ _ rfl).cell 5 _ rfl
          have c6 := (HB2.out.box 0 _ _ rfl).cell 6 _ rfl
          have c7 := (HB2.out.box 0 _ _ rfl).cell 7 _ rfl
          have c8 := (HB2.out.box 0 _ _ rfl).cell 8 _ rfl
          have c9 := (HB2.out.box 0 _ _ rfl).cell 9 _ rfl
          have c10 := (HB2.out.box 0 _ _ rfl).cell 10 _ rfl
          have c11 := (HB2.out.box 0 _ _ rfl).cell 11 _ rfl
          have cf0 := (HB2.out.box 0 _ _ rfl).froz 0 _ rfl
          have cf1 := (HB2.out.box 0 _ _ rfl).froz 1 _ rfl
          have cf2 := (HB2.out.box 0 _ _ rfl).froz 2 _ rfl
          have cf3 := (HB2.out.box 0 _ _ rfl).froz 3 _ rfl
          have cf4 := (HB2.out.box 0 _ _ rfl).froz 4 _ rfl
          have cf5 := (HB2.out.box 0 _ _ rfl).froz 5 _ rfl
          have cf6 := (HB2.out.box 0 _ _ rfl).froz 6 _ rfl
          have cf7 := (HB2.out.box 0 _ _ rfl).froz 7 _ rfl
          have cf8 := (HB2.out.box 0 _ _ rfl).froz 8 _ rfl
          have cf9 := (HB2.out.box 0 _ _ rfl).froz 9 _ rfl
          have cf10 := (HB2.out.box 0 _ _ rfl).froz 10 _ rfl
          have cf11 := (HB2.out.box 0 _ _ rfl).froz 11 _ rfl
          go_upto_region 6 with (fail)
          try rw [hw6]
          clear hw6 HB2
          clear cl c0 c1 c2 c3 c4 c5 c6 c7 c8 c9 c10 c11
          clear cf0 cf1 cf2 cf3 cf4 cf5 cf6 cf7 cf8 cf9 cf10 cf11
          have dl := (HB3.out.box 1 _ _ rfl).lt
          have d0 := (HB3.out.box 1 _ _ rfl).cell 0 _ rfl
          have d1 := (HB3.out.box 1 _ _ rfl).cell 1 _ rfl
          have d2 := (HB3.out.box 1 _ _ rfl).cell 2 _ rfl
          have d3 := (HB3.out.box 1 _ _ rfl).cell 3 _ rfl
          rcases HC.out 0 (by omega) with ⟨ho, hc⟩ | ⟨ho, hc⟩
          · rw [HM.out] at hc
            have CL : Hid (_) := hc
            clear hc
            rw [ho] at d0
            clear ho
            have cl := (HB3.out.box 0 _ _ rfl).lt
            have c0 := (HB3.out.box 0 _ _ rfl).cell 0 _ rfl
            have c1 := (HB3.out.box 0 _ _ rfl).cell 1 _ rfl
            have c2 := (HB3.out.box 0 _ _ rfl).cell 2 _ rfl
            have c3 := (HB3.out.box 0 _ _ rfl).cell 3 _ rfl
            have c4 := (HB3.out.box 0 _ _ rfl).cell 4 _ rfl
            have c5 := (HB3.out.box 0 _ _ rfl).cell 5 _ rfl
            have c6 := (HB3.out.box 0 _ _ rfl).cell 6 _ rfl
            have c7 := (HB3.out.box 0 _ _ rfl).cell 7 _ rfl
            have c8 := (HB3.out.box 0 _ _ rfl).cell 8 _ rfl
            have c9 := (HB3.out.box 0 _ _ rfl).cell 9 _ rfl
            have c10 := (HB3.out.box 0 _ _ rfl).cell 10 _ rfl
            have c11 := (HB3.out.box 0 _ _ rfl).cell 11 _ rfl
            go_wp2_with fail
            refine (CL.out _).mono ?_
            rintro r w7 ⟨rfl, hb⟩
            have HB4 : Hid (_) := HB3.out.step hb
            clear hb HB3 CL
            clear cl c0 c1 c2 c3 c4 c5 c6 c7 c8 c9 c10 c11
            clear dl d0 d1 d2 d3
            have cl := (HB4.out.box 0 _ _ rfl).lt
            have c0 := (HB4.out.box 0 _ _ rfl).cell 0 _ rfl
            have c1 := (HB4.out.box 0 _ _ rfl).cell 1 _ rfl
            have c2 := (HB4.out.box 0 _ _ rfl).cell 2 _ rfl
            have c3 := (HB4.out.box 0 _ _ rfl).cell 3 _ rfl
            have c4 := (HB4.out.box 0 _ _ rfl).cell 4 _ rfl
            have c5 := (HB4.out.box 0 _ _ rfl).cell 5 _ rfl
            have c6 := (HB4.out.box 0 _ _ rfl).cell 6 _ rfl
            have c7 := (HB4.out.box 0 _ _ rfl).cell 7 _ rfl
            have c8 := (HB4.out.box 0 _ _ rfl).cell 8 _ rfl
            have c9 := (HB4.out.box 0 _ _ rfl).cell 9 _ rfl
            have c10 := (HB4.out.box 0 _ _ rfl).cell 10 _ rfl
            have c11 := (HB4.out.box 0 _ _ rfl).cell 11 _ rfl
            have cf0 := (HB4.out.box 0 _ _ rfl).froz 0 _ rfl
            have cf1 := (HB4.out.box 0 _ _ rfl).froz 1 _ rfl
            have cf2 := (HB4.out.box 0 _ _ rfl).froz 2 _ rfl
            have cf3 := (HB4.out.box 0 _ _ rfl).froz 3 _ rfl
            have cf4 := (HB4.out.box 0 _ _ rfl).froz 4 _ rfl
            have cf5 := (HB4.out.box 0 _ _ rfl).froz 5 _ rfl
            have cf6 := (HB4.out.box 0 _ _ rfl).froz 6 _ rfl
            have cf7 := (HB4.out.box 0 _ _ rfl).froz 7 _ rfl
            have cf8 := (HB4.out.box 0 _ _ rfl).froz 8 _ rfl
            have cf9 := (HB4.out.box 0 _ _ rfl).froz 9 _ rfl
            have cf10 := (HB4.out.box 0 _ _ rfl).froz 10 _ rfl
            have cf11 := (HB4.out.box 0 _ _ rfl).froz 11 _ rfl
            go_wp2_with fail
            obtain ⟨w8, hw8, HB5⟩ := HB4.out.lane 0 _ B rfl 0 (by omega) 0 1 2 rfl rfl rfl (u 0)
            rw [hw8]
            rw [HQ.out] at HB5
            clear hw8
            go_roundg (4 - (0 + 1) + 1)
            case measure => omega
            case rel => exact ⟨1, rfl, by omega, by omega, HB5⟩
          · have HU : Hid (upS (0 + 1) t u = B) := by rw [← HQ.out]; exact putS_self (hc.trans HM.out)
            clear hc
            rw [ho] at d0
            clear ho
            go_wp2_with fail
            have HB5 := HB3.out
            rw [← HU.out] at HB5
            go_roundg (4 - (0 + 1) + 1)
            case measure => omega
            case rel => exact ⟨1, rfl, by omega, by omega, HB5⟩
        · have HM : Hid (a 0 = A 0) := hc.trans HT.out
          clear hc
          have dl := (HB.out.box 1 _ _ rfl).lt
          have d0 := (HB.out.box 1 _ _ rfl).cell 0 _ rfl
          have d1 := (HB.out.box 1 _ _ rfl).cell 1 _ rfl
          have d2 := (HB.out.box 1 _ _ rfl).cell 2 _ rfl
          have d3 := (HB.out.box 1 _ _ rfl).cell 3 _ rfl
          have el := (HB.out.box 2 _ _ rfl).lt
          have e0 := (HB.out.box 2 _ _ rfl).cell 0 _ rfl
          have e1 := (HB.out.box 2 _ _ rfl).cell 1 _ rfl
          have e2 := (HB.out.box 2 _ _ rfl).cell 2 _ rfl
          have e3 := (HB.out.box 2 _ _ rfl).cell 3 _ rfl
          rw [hf] at e0
          clear hf
          rcases HC.out 0 (by omega) with ⟨ho, hc⟩ | ⟨ho, hc⟩
          · rw [HM.out] at hc
            have CL : Hid (_) := hc
            clear hc
            rw [ho] at d0
            clear ho
            have cl := (HB.out.box 0 _ _ rfl).lt
            have c0 := (HB.out.box 0 _ _ rfl).cell 0 _ rfl
            have c1 := (HB.out.box 0 _ _ rfl).cell 1 _ rfl
            have c2 := (HB.out.box 0 _ _ rfl).cell 2 _ rfl
            have c3 := (HB.out.box 0 _ _ rfl).cell 3 _ rfl
            have c4 := (HB.out.box 0 _ _ rfl).cell 4 _ rfl
            have c5 := (HB.out.box 0 _ _ rfl).cell 5 _ rfl
            have c6 := (HB.out.box 0 _ _ rfl).cell 6 _ rfl
            have c7 := (HB.out.box 0 _ _ rfl).cell 7 _ rfl
            have c8 := (HB.out.box 0 _ _ rfl).cell 8 _ rfl
            have c9 := (HB.out.box 0 _ _ rfl).cell 9 _ rfl
            have c10 := (HB.out.box 0 _ _ rfl).cell 10 _ rfl
            have c11 := (HB.out.box 0 _ _ rfl).cell 11 _ rfl
            go_wp2_with fail
            refine (CL.out _).mono ?_
            rintro r w7 ⟨rfl, hb⟩
            have HB4 : Hid (_) := HB.out.step hb
            clear hb HB CL
            clear cl c0 c1 c2 c3 c4 c5 c6 c7 c8 c9 c10 c11
            clear dl d0 d1 d2 d3
            clear el e0 e1 e2 e3
            have cl := (HB4.out.box 0 _ _ rfl).lt
            have c0 := (HB4.out.box 0 _ _ rfl).cell 0 _ rfl
            have c1 := (HB4.out.box 0 _ _ rfl).cell 1 _ rfl
            have c2 := (HB4.out.box 0 _ _ rfl).cell 2 _ rfl
            have c3 := (HB4.out.box 0 _ _ rfl).cell 3 _ rfl
            have c4 := (HB4.out.box 0 _ _ rfl).cell 4 _ rfl
            have c5 := (HB4.out.box 0 _ _ rfl).cell 5 _ rfl
            have c6 := (HB4.out.box 0 _ _ rfl).cell 6 _ rfl
            have c7 := (HB4.out.box 0 _ _ rfl).cell 7 _ rfl
            have c8 := (HB4.out.box 0 _ _ rfl).cell 8 _ rfl
            have c9 := (HB4.out.box 0 _ _ rfl).cell 9 _ rfl
            have c10 := (HB4.out.box 0 _ _ rfl).cell 10 _ rfl
            have c11 := (HB4.out.box 0 _ _ rfl).cell 11 _ rfl
            have cf0 := (HB4.out.box 0 _ _ rfl).froz 0 _ rfl
            have cf1 := (HB4.out.box 0 _ _ rfl).froz 1 _ rfl
            have cf2 := (HB4.out.box 0 _ _ rfl).froz 2 _ rfl
            have cf3 := (HB4.out.box 0 _ _ rfl).froz 3 _ rfl
            have cf4 := (HB4.out.box 0 _ _ rfl).froz 4 _ rfl
            have cf5 := (HB4.out.box 0 _ _ rfl).froz 5 _ rfl
            have cf6 := (HB4.out.box 0 _ _ rfl).froz 6 _ rfl
            have cf7 := (HB4.out.box 0 _ _ rfl).froz 7 _ rfl
            have cf8 := (HB4.out.box 0 _ _ rfl).froz 8 _ rfl
            have cf9 := (HB4.out.box 0 _ _ rfl).froz 9 _ rfl
            have cf10 := (HB4.out.box 0 _ _ rfl).froz 10 _ rfl
            have cf11 := (HB4.out.box 0 _ _ rfl).froz 11 _ rfl
            go_wp2_with fail
            obtain ⟨w8, hw8, HB5⟩ := HB4.out.lane 0 _ A rfl 0 (by omega) 0 1 2 rfl rfl rfl (u 0)
            rw [hw8]
            rw [HN.out] at HB5
            clear hw8
            go_roundg (4 - (0 + 1) + 1)
            case measure => omega
            case rel => exact ⟨1, rfl, by omega, by omega, HB5⟩
          · have HU : Hid (upS (0 + 1) t u = A) := by rw [← HN.out]; exact putS_self (hc.trans HM.out)
            clear hc
            rw [ho] at d0
            clear ho
            go_wp2_with fail
            have HB5 := HB.out
            rw [← HU.out] at HB5
            go_roundg (4 - (0 + 1) + 1)
            case measure => omega
            case rel => exact ⟨1, rfl, by omega, by omega, HB5⟩
      · rcases HA.out 1 (by omega) with ⟨hf, hc⟩ | ⟨hf, hc⟩
        · rw [HT.out] at hc
          have CK : Hid (_) := hc
          clear hc
          have cl := (HB.out.box 0 _ _ rfl).lt
          have c0 := (HB.out.box 0 _ _ rfl).cell 0 _ rfl
          have c1 := (HB.out.box 0 _ _ rfl).cell 1 _ rfl
          have c2 := (HB.out.box 0 _ _ rfl).cell 2 _ rfl
          have c3 := (HB.out.box 0 _ _ rfl).cell 3 _ rfl
          have c4 := (HB.out.box 0 _ _ rfl).cell 4 _ rfl
          have c5 := (HB.out.box 0 _ _ rfl).cell 5 _ rfl
          have c6 := (HB.out.box 0 _ _ rfl).cell 6 _ rfl
          have c7 := (HB.out.box 0 _ _ rfl).cell 7 _ rfl
          have c8 := (HB.out.box 0 _ _ rfl).cell 8 _ rfl
          have c9 := (HB.out.box 0 _ _ rfl).cell 9 _ rfl
          have c10 := (HB.out.box 0 _ _ rfl).cell 10 _ rfl
          have c11 := (HB.out.box 0 _ _ rfl).cell 11 _ rfl
          have el := (HB.out.box 2 _ _ rfl).lt
          have e0 := (HB.out.box 2 _ _ rfl).cell 0 _ rfl
          have e1 := (HB.out.box 2 _ _ rfl).cell 1 _ rfl
          have e2 := (HB.out.box 2 _ _ rfl).cell 2 _ rfl
          have e3 := (HB.out.box 2 _ _ rfl).cell 3 _ rfl
          rw [hf] at e1
          clear hf
          go_wp2_with fail
          refine (CK.out _).mono ?_
          rintro r w5 ⟨rfl, hb⟩
          have HB2 : Hid (_) := HB.out.step hb
          clear hb HB CK
          clear cl c0 c1 c2 c3 c4 c5 c6 c7 c8 c9 c10 c11
          clear el e0 e1 e2 e3
          obtain ⟨w6, hw6, HB3'⟩ := HB2.out.lane 0 _ A rfl 1 (by omega) 3 4 5 rfl rfl rfl (a 1)
          obtain ⟨B, hB⟩ : ∃ B, B = putS A 1 (a 1) := ⟨_, rfl⟩
          rw [← hB] at HB3'
          have HB3 : Hid (Bxs w [(w.heap.size, [.int .i64 (B 0).m, .bool (B 0).f, .int .i64 (B 0).n, .int .i64 (B 1).m, .bool (B 1).f, .int .i64 (B 1).n, .int .i64 (B 2).m, .bool (B 2).f, .int .i64 (B 2).n, .int .i64 (B 3).m, .bool (B 3).f, .int .i64 (B 3).n]), (w.heap.size + 1, [.bool (o 0), .bool (o 1), .bool (o 2), .bool (o 3)]), (w.heap.size + 1 + 1, [.bool (f 0), .bool (f 1), .bool (f 2), .bool (f 3)]), (w.heap.size + 1 + 1 + 1, [.int .i64 0, .bool false, .int .i64 0, .int .i64 0, .bool false, .int .i64 0, .int .i64 0, .bool false, .int .i64 0, .int .i64 0, .bool false, .int .i64 0])] w6) := HB3'
          have HM : Hid (a 1 = B 1) := by rw [hB]; exact (putS_at _ _ _).symm
          have HQ : Hid (putS B 1 (u 1) = upS (1 + 1) t u) := by rw [hB, putS_putS]; exact HN.out
          clear HB3' hB HN
          have cl := (HB2.out.box 0 _ _ rfl).lt
          have c0 := (HB2.out.box 0 _ _ rfl).cell 0 _ rfl
          have c1 := (HB2.out.box 0 _ _ rfl).cell 1 _ rfl
          have c2 := (HB2.out.box 0 _ _ rfl).cell 2 _ rfl
          have c3 := (HB2.out.box 0 _ _ rfl).cell 3 _ rfl
          have c4 := (HB2.out.box 0 _ _ rfl).cell 4 _ rfl
          have c5 := (HB2.out.box 0 _ _ rfl).cell 5 _ rfl
          have c6 := (HB2.out.box 0 _ _ rfl).cell 6 _ rfl
          have c7 := (HB2.out.box 0 _ _ rfl).cell 7 _ rfl
          have c8 := (HB2.out.box 0 _ _ rfl).cell 8 _ rfl
          have c9 := (HB2.out.box 0 _ _ rfl).cell 9 _ rfl
          have c10 := (HB2.out.box 0 _ _ rfl).cell 10 _ rfl
          have c11 := (HB2.out.box 0 _ _ rfl).cell 11 _ rfl
          have cf0 := (HB2.out.box 0 _ _ rfl).froz 0 _ rfl
          have cf1 := (HB2.out.box 0 _ _ rfl).froz 1 _ rfl
          have cf2 := (HB2.out.box 0 _ _ rfl).froz 2 _ rfl
          have cf3 := (HB2.out.box 0 _ _ rfl).froz 3 _ rfl
          have cf4 := (HB2.out.box 0 _ _ rfl).froz 4 _ rfl
          have cf5 := (HB2.out.box 0 _ _ rfl).froz 5 _ rfl
          have cf6 := (HB2.out.box 0 _ _ rfl).froz 6 _ rfl
          have cf7 := (HB2.out.box 0 _ _ rfl).froz 7 _ rfl
          have cf8 := (HB2.out.box 0 _ _ rfl).froz 8 _ rfl
          have cf9 := (HB2.out.box 0 _ _ rfl).froz 9 _ rfl
          have cf10 := (HB2.out.box 0 _ _ rfl).froz 10 _ rfl
          have cf11 := (HB2.out.box 0 _ _ rfl).froz 11 _ rfl
          go_upto_region 6 with (fail)
          try rw [hw6]
          clear hw6 HB2
          clear cl c0 c1 c2 c3 c4 c5 c6 c7 c8 c9 c10 c11
          clear cf0 cf1 cf2 cf3 cf4 cf5 cf6 cf7 cf8 cf9 cf10 cf11
          have dl := (HB3.out.box 1 _ _ rfl).lt
          have d0 := (HB3.out.box 1 _ _ rfl).cell 0 _ rfl
          have d1 := (HB3.out.box 1 _ _ rfl).cell 1 _ rfl
          have d2 := (HB3.out.box 1 _ _ rfl).cell 2 _ rfl
          have d3 := (HB3.out.box 1 _ _ rfl).cell 3 _ rfl
          rcases HC.out 1 (by omega) with ⟨ho, hc⟩ | ⟨ho, hc⟩
          · rw [HM.out] at hc
            have CL : Hid (_) := hc
            clear hc
            rw [ho] at d1
            clear ho
            have cl := (HB3.out.box 0 _ _ rfl).lt
            have c0 := (HB3.out.box 0 _ _ rfl).cell 0 _ rfl
            have c1 := (HB3.out.box 0 _ _ rfl).cell 1 _ rfl
            have c2 := (HB3.out.box 0 _ _ rfl).cell 2 _ rfl
            have c3 := (HB3.out.box 0 _ _ rfl).cell 3 _ rfl
            have c4 := (HB3.out.box 0 _ _ rfl).cell 4 _ rfl
            have c5 := (HB3.out.box 0 _ _ rfl).cell 5 _ rfl
            have c6 := (HB3.out.box 0 _ _ rfl).cell 6 _ rfl
            have c7 := (HB3.out.box 0 _ _ rfl).cell 7 _ rfl
            have c8 := (HB3.out.box 0 _ _ rfl).cell 8 _ rfl
            have c9 := (HB3.out.box 0 _ _ rfl).cell 9 _ rfl
            have c10 := (HB3.out.box 0 _ _ rfl).cell 10 _ rfl
            have c11 := (HB3.out.box 0 _ _ rfl).cell 11 _ rfl
            go_wp2_with fail
            refine (CL.out _).mono ?_
            rintro r w7 ⟨rfl, hb⟩
            have HB4 : Hid (_) := HB3.out.step hb
            clear hb HB3 CL
            clear cl c0 c1 c2 c3 c4 c5 c6 c7 c8 c9 c10 c11
            clear dl d0 d1 d2 d3
            have cl := (HB4.out.box 0 _ _ rfl).lt
            have c0 := (HB4.out.box 0 _ _ rfl).cell 0 _ rfl
            have c1 := (HB4.out.box 0 _ _ rfl).cell 1 _ rfl
            have c2 := (HB4.out.box 0 _ _ rfl).cell 2 _ rfl
            have c3 := (HB4.out.box 0 _ _ rfl).cell 3 _ rfl
            have c4 := (HB4.out.box 0 _ _ rfl).cell 4 _ rfl
            have c5 := (HB4.out.box 0 _ _ rfl).cell 5 _ rfl
            have c6 := (HB4.out.box 0 _ _ rfl).cell 6 _ rfl
            have c7 := (HB4.out.box 0 _ _ rfl).cell 7 _ rfl
            have c8 := (HB4.out.box 0 _ _ rfl).cell 8 _ rfl
            have c9 := (HB4.out.box 0 _ _ rfl).cell 9 _ rfl
            have c10 := (HB4.out.box 0 _ _ rfl).cell 10 _ rfl
            have c11 := (HB4.out.box 0 _ _ rfl).cell 11 _ rfl
            have cf0 := (HB4.out.box 0 _ _ rfl).froz 0 _ rfl
            have cf1 := (HB4.out.box 0 _ _ rfl).froz 1 _ rfl
            have cf2 := (HB4.out.box 0 _ _ rfl).froz 2 _ rfl
            have cf3 := (HB4.out.box 0 _ _ rfl).froz 3 _ rfl
            have cf4 := (HB4.out.box 0 _ _ rfl).froz 4 _ rfl
            have cf5 := (HB4.out.box 0 _ _ rfl).froz 5 _ rfl
            have cf6 := (HB4.out.box 0 _ _ rfl).froz 6 _ rfl
            have cf7 := (HB4.out.box 0 _ _ rfl).froz 7 _ rfl
            have cf8 := (HB4.out.box 0 _ _ rfl).froz 8 _ rfl
            have cf9 := (HB4.out.box 0 _ _ rfl).froz 9 _ rfl
            have cf10 := (HB4.out.box 0 _ _ rfl).froz 10 _ rfl
            have cf11 := (HB4.out.box 0 _ _ rfl).froz 11 _ rfl
            go_wp2_with fail
            obtain ⟨w8, hw8, HB5⟩ := HB4.out.lane 0 _ B rfl 1 (by omega) 3 4 5 rfl rfl rfl (u 1)
            rw [hw8]
            rw [HQ.out] at HB5
            clear hw8
            go_roundg (4 - (1 + 1) + 1)
            case measure => omega
            case rel => exact ⟨2, rfl, by omega, by omega, HB5⟩
          · have HU : Hid (upS (1 + 1) t u = B) := by rw [← HQ.out]; exact putS_self (hc.trans HM.out)
            clear hc
            rw [ho] at d1
            clear ho
            go_wp2_with fail
            have HB5 := HB3.out
            rw [← HU.out] at HB5
            go_roundg (4 - (1 + 1) + 1)
            case measure => omega
            case rel => exact ⟨2, rfl, by omega, by omega, HB5⟩
        · have HM : Hid (a 1 = A 1) := hc.trans HT.out
          clear hc
          have dl := (HB.out.box 1 _ _ rfl).lt
          have d0 := (HB.out.box 1 _ _ rfl).cell 0 _ rfl
          have d1 := (HB.out.box 1 _ _ rfl).cell 1 _ rfl
          have d2 := (HB.out.box 1 _ _ rfl).cell 2 _ rfl
          have d3 := (HB.out.box 1 _ _ rfl).cell 3 _ rfl
          have el := (HB.out.box 2 _ _ rfl).lt
          have e0 := (HB.out.box 2 _ _ rfl).cell 0 _ rfl
          have e1 := (HB.out.box 2 _ _ rfl).cell 1 _ rfl
          have e2 := (HB.out.box 2 _ _ rfl).cell 2 _ rfl
          have e3 := (HB.out.box 2 _ _ rfl).cell 3 _ rfl
          rw [hf] at e1
          clear hf
          rcases HC.out 1 (by omega) with ⟨ho, hc⟩ | ⟨ho, hc⟩
          · rw [HM.out] at hc
            have CL : Hid (_) := hc
            clear hc
            rw [ho] at d1
            clear ho
            have cl := (HB.out.box 0 _ _ rfl).lt
            have c0 := (HB.out.box 0 _ _ rfl).cell 0 _ rfl
            have c1 := (HB.out.box 0 _ _ rfl).cell 1 _ rfl
            have c2 := (HB.out.box 0 _ _ rfl).cell 2 _ rfl
            have c3 := (HB.out.box 0 _ _ rfl).cell 3 _ rfl
            have c4 := (HB.out.box 0 _ _ rfl).cell 4 _ rfl
            have c5 := (HB.out.box 0 _ _ rfl).cell 5 _ rfl
            have c6 := (HB.out.box 0 _ _ rfl).cell 6 _ rfl
            have c7 := (HB.out.box 0 _ _ rfl).cell 7 _ rfl
            have c8 := (HB.out.box 0 _ _ rfl).cell 8 _ rfl
            have c9 := (HB.out.box 0 _ _ rfl).cell 9 _ rfl
            have c10 := (HB.out.box 0 _ _ rfl).cell 10 _ rfl
            have c11 := (HB.out.box 0 _ _ rfl).cell 11 _ rfl
            go_wp2_with fail
            refine (CL.out _).mono ?_
            rintro r w7 ⟨rfl, hb⟩
            have HB4 : Hid (_) := HB.out.step hb
            clear hb HB CL
            clear cl c0 c1 c2 c3 c4 c5 c6 c7 c8 c9 c10 c11
            clear dl d0 d1 d2 d3
            clear el e0 e1 e2 e3
            have cl := (HB4.out.box 0 _ _ rfl).lt
            have c0 := (HB4.out.box 0 _ _ rfl).cell 0 _ rfl
            have c1 := (HB4.out.box 0 _ _ rfl).cell 1 _ rfl
            have c2 := (HB4.out.box 0 _ _ rfl).cell 2 _ rfl
            have c3 := (HB4.out.box 0 _ _ rfl).cell 3 _ rfl
            have c4 := (HB4.out.box 0 _ _ rfl).cell 4 _ rfl
            have c5 := (HB4.out.box 0 _ _ rfl).cell 5 _ rfl
            have c6 := (HB4.out.box 0 _ _ rfl).cell 6 _ rfl
            have c7 := (HB4.out.box 0 _ _ rfl).cell 7 _ rfl
            have c8 := (HB4.out.box 0 _ _ rfl).cell 8 _ rfl
            have c9 := (HB4.out.box 0 _ _ rfl).cell 9 _ rfl
            have c10 := (HB4.out.box 0 _ _ rfl).cell 10 _ rfl
            have c11 := (HB4.out.box 0 _ _ rfl).cell 11 _ rfl
            have cf0 := (HB4.out.box 0 _ _ rfl).froz 0 _ rfl
            have cf1 := (HB4.out.box 0 _ _ rfl).froz 1 _ rfl
            have cf2 := (HB4.out.box 0 _ _ rfl).froz 2 _ rfl
            have cf3 := (HB4.out.box 0 _ _ rfl).froz 3 _ rfl
            have cf4 := (HB4.out.box 0 _ _ rfl).froz 4 _ rfl
            have cf5 := (HB4.out.box 0 _ _ rfl).froz 5 _ rfl
            have cf6 := (HB4.out.box 0 _ _ rfl).froz 6 _ rfl
            have cf7 := (HB4.out.box 0 _ _ rfl).froz 7 _ rfl
            have cf8 := (HB4.out.box 0 _ _ rfl).froz 8 _ rfl
            have cf9 := (HB4.out.box 0 _ _ rfl).froz 9 _ rfl
            have cf10 := (HB4.out.box 0 _ _ rfl).froz 10 _ rfl
            have cf11 := (HB4.out.box 0 _ _ rfl).froz 11 _ rfl
            go_wp2_with fail
            obtain ⟨w8, hw8, HB5⟩ := HB4.out.lane 0 _ A rfl 1 (by omega) 3 4 5 rfl rfl rfl (u 1)
            rw [hw8]
            rw [HN.out] at HB5
            clear hw8
            go_roundg (4 - (1 + 1) + 1)
            case measure => omega
            case rel => exact ⟨2, rfl, by omega, by omega, HB5⟩
          · have HU : Hid (upS (1 + 1) t u = A) := by rw [← HN.out]; exact putS_self (hc.trans HM.out)
            clear hc
            rw [ho] at d1
            clear ho
            go_wp2_with fail
            have HB5 := HB.out
            rw [← HU.out] at HB5
            go_roundg (4 - (1 + 1) + 1)
            case measure => omega
            case rel => exact ⟨2, rfl, by omega, by omega, HB5⟩
      · rcases HA.out 2 (by omega) with ⟨hf, hc⟩ | ⟨hf, hc⟩
        · rw [HT.out] at hc
          have CK : Hid (_) := hc
          clear hc
          have cl := (HB.out.box 0 _ _ rfl).lt
          have c0 := (HB.out.box 0 _ _ rfl).cell 0 _ rfl
          have c1 := (HB.out.box 0 _ _ rfl).cell 1 _ rfl
          have c2 := (HB.out.box 0 _ _ rfl).cell 2 _ rfl
          have c3 := (HB.out.box 0 _ _ rfl).cell 3 _ rfl
          have c4 := (HB.out.box 0 _ _ rfl).cell 4 _ rfl
          have c5 := (HB.out.box 0 _ _ rfl).cell 5 _ rfl
          have c6 := (HB.out.box 0 _ _ rfl).cell 6 _ rfl
          have c7 := (HB.out.box 0 _ _ rfl).cell 7 _ rfl
          have c8 := (HB.out.box 0 _ _ rfl).cell 8 _ rfl
          have c9 := (HB.out.box 0 _ _ rfl).cell 9 _ rfl
          have c10 := (HB.out.box 0 _ _ rfl).cell 10 _ rfl
          have c11 := (HB.out.box 0 _ _ rfl).cell 11 _ rfl
          have el := (HB.out.box 2 _ _ rfl).lt
          have e0 := (HB.out.box 2 _ _ rfl).cell 0 _ rfl
          have e1 := (HB.out.box 2 _ _ rfl).cell 1 _ rfl
          have e2 := (HB.out.box 2 _ _ rfl).cell 2 _ rfl
          have e3 := (HB.out.box 2 _ _ rfl).cell 3 _ rfl
          rw [hf] at e2
          clear hf
          go_wp2_with fail
          refine (CK.out _).mono ?_
          rintro r w5 ⟨rfl, hb⟩
          have HB2 : Hid (_) := HB.out.step hb
          clear hb HB CK
          clear cl c0 c1 c2 c3 c4 c5 c6 c7 c8 c9 c10 c11
          clear el e0 e1 e2 e3
          obtain ⟨w6, hw6, HB3'⟩ := HB2.out.lane 0 _ A rfl 2 (by omega) 6 7 8 rfl rfl rfl (a 2)
          obtain ⟨B, hB⟩ : ∃ B, B = putS A 2 (a 2) := ⟨_, rfl⟩
          rw [← hB] at HB3'
          have HB3 : Hid (Bxs w [(w.heap.size, [.int .i64 (B 0).m, .bool (B 0).f, .int .i64 (B 0).n, .int .i64 (B 1).m, .bool (B 1).f, .int .i64 (B 1).n, .int .i64 (B 2).m, .bool (B 2).f, .int .i64 (B 2).n, .int .i64 (B 3).m, .bool (B 3).f, .int .i64 (B 3).n]), (w.heap.size + 1, [.bool (o 0), .bool (o 1), .bool (o 2), .bool (o 3)]), (w.heap.size + 1 + 1, [.bool (f 0), .bool (f 1), .bool (f 2), .bool (f 3)]), (w.heap.size + 1 + 1 + 1, [.int .i64 0, .bool false, .int .i64 0, .int .i64 0, .bool false, .int .i64 0, .int .i64 0, .bool false, .int .i64 0, .int .i64 0, .bool false, .int .i64 0])] w6) := HB3'
          have HM : Hid (a 2 = B 2) := by rw [hB]; exact (putS_at _ _ _).symm
          have HQ : Hid (putS B 2 (u 2) = upS (2 + 1) t u) := by rw [hB, putS_putS]; exact HN.out
          clear HB3' hB HN
          have cl := (HB2.out.box 0 _ _ rfl).lt
          have c0 := (HB2.out.box 0 _ _ rfl).cell 0 _ rfl
          have c1 := (HB2.out.box 0 _ _ rfl).cell 1 _ rfl
          have c2 := (HB2.out.box 0 _ _ rfl).cell 2 _ rfl
          have c3 := (HB2.out.box 0 _ _ rfl).cell 3 _ rfl
          have c4 := (HB2.out.box 0 _ _ rfl).cell 4 _ rfl
          have c5 := (HB2.out.box 0 _ _ rfl).cell 5 _ rfl
          have c6 := (HB2.out.box 0 _ _ rfl).cell 6 _ rfl
          have c7 := (HB2.out.box 0 _ _ rfl).cell 7 _ rfl
          have c8 := (HB2.out.box 0 _ _ rfl).cell 8 _ rfl
          have c9 := (HB2.out.box 0 _ _ rfl).cell 9 _ rfl
          have c10 := (HB2.out.box 0 _ _ rfl).cell 10 _ rfl
          have c11 := (HB2.out.box 0 _ _ rfl).cell 11 _ rfl
          have cf0 := (HB2.out.box 0 _ _ rfl).froz 0 _ rfl
          have cf1 := (HB2.out.box 0 _ _ rfl).froz 1 _ rfl
          have cf2 := (HB2.out.box 0 _ _ rfl).froz 2 _ rfl
          have cf3 := (HB2.out.box 0 _ _ rfl).froz 3 _ rfl
          have cf4 := (HB2.out.box 0 _ _ rfl).froz 4 _ rfl
          have cf5 := (HB2.out.box 0 _ _ rfl).froz 5 _ rfl
          have cf6 := (HB2.out.box 0 _ _ rfl).froz 6 _ rfl
          have cf7 := (HB2.out.box 0 _ _ rfl).froz 7 _ rfl
          have cf8 := (HB2.out.box 0 _ _ rfl).froz 8 _ rfl
          have cf9 := (HB2.out.box 0 _ _ rfl).froz 9 _ rfl
          have cf10 := (HB2.out.box 0 _ _ rfl).froz 10 _ rfl
          have cf11 := (HB2.out.box 0 _ _ rfl).froz 11 _ rfl
          go_upto_region 6 with (fail)
          try rw [hw6]
          clear hw6 HB2
          clear cl c0 c1 c2 c3 c4 c5 c6 c7 c8 c9 c10 c11
          clear cf0 cf1 cf2 cf3 cf4 cf5 cf6 cf7 cf8 cf9 cf10 cf11
          have dl := (HB3.out.box 1 _ _ rfl).lt
          have d0 := (HB3.out.box 1 _ _ rfl).cell 0 _ rfl
          have d1 := (HB3.out.box 1 _ _ rfl).cell 1 _ rfl
          have d2 := (HB3.out.box 1 _ _ rfl).cell 2 _ rfl
          have d3 := (HB3.out.box 1 _ _ rfl).cell 3 _ rfl
          rcases HC.out 2 (by omega) with ⟨ho, hc⟩ | ⟨ho, hc⟩
          · rw [HM.out] at hc
            have CL : Hid (_) := hc
            clear hc
            rw [ho] at d2
            clear ho
            have cl := (HB3.out.box 0 _ _ rfl).lt
            have c0 := (HB3.out.box 0 _ _ rfl).cell 0 _ rfl
            have c1 := (HB3.out.box 0 _ _ rfl).cell 1 _ rfl
            have c2 := (HB3.out.box 0 _ _ rfl).cell 2 _ rfl
            have c3 := (HB3.out.box 0 _ _ rfl).cell 3 _ rfl
            have c4 := (HB3.out.box 0 _ _ rfl).cell 4 _ rfl
            have c5 := (HB3.out.box 0 _ _ rfl).cell 5 _ rfl
            have c6 := (HB3.out.box 0 _ _ rfl).cell 6 _ rfl
            have c7 := (HB3.out.box 0 _ _ rfl).cell 7 _ rfl
            have c8 := (HB3.out.box 0 _ _ rfl).cell 8 _ rfl
            have c9 := (HB3.out.box 0 _ _ rfl).cell 9 _ rfl
            have c10 := (HB3.out.box 0 _ _ rfl).cell 10 _ rfl
            have c11 := (HB3.out.box 0 _ _ rfl).cell 11 _ rfl
            go_wp2_with fail
            refine (CL.out _).mono ?_
            rintro r w7 ⟨rfl, hb⟩
            have HB4 : Hid (_) := HB3.out.step hb
            clear hb HB3 CL
            clear cl c0 c1 c2 c3 c4 c5 c6 c7 c8 c9 c10 c11
            clear dl d0 d1 d2 d3
            have cl := (HB4.out.box 0 _ _ rfl).lt
            have c0 := (HB4.out.box 0 _ _ rfl).cell 0 _ rfl
            have c1 := (HB4.out.box 0 _ _ rfl).cell 1 _ rfl
            have c2 := (HB4.out.box 0 _ _ rfl).cell 2 _ rfl
            have c3 := (HB4.out.box 0 _ _ rfl).cell 3 _ rfl
            have c4 := (HB4.out.box 0 _ _ rfl).cell 4 _ rfl
            have c5 := (HB4.out.box 0 _ _ rfl).cell 5 _ rfl
            have c6 := (HB4.out.box 0 _ _ rfl).cell 6 _ rfl
            have c7 := (HB4.out.box 0 _ _ rfl).cell 7 _ rfl
            have c8 := (HB4.out.box 0 _ _ rfl).cell 8 _ rfl
            have c9 := (HB4.out.box 0 _ _ rfl).cell 9 _ rfl
            have c10 := (HB4.out.box 0 _ _ rfl).cell 10 _ rfl
            have c11 := (HB4.out.box 0 _ _ rfl).cell 11 _ rfl
            have cf0 := (HB4.out.box 0 _ _ rfl).froz 0 _ rfl
            have cf1 := (HB4.out.box 0 _ _ rfl).froz 1 _ rfl
            have cf2 := (HB4.out.box 0 _ _ rfl).froz 2 _ rfl
            have cf3 := (HB4.out.box 0 _ _ rfl).froz 3 _ rfl
            have cf4 := (HB4.out.box 0 _ _ rfl).froz 4 _ rfl
            have cf5 := (HB4.out.box 0 _ _ rfl).froz 5 _ rfl
            have cf6 := (HB4.out.box 0 _ _ rfl).froz 6 _ rfl
            have cf7 := (HB4.out.box 0 _ _ rfl).froz 7 _ rfl
            have cf8 := (HB4.out.box 0 _ _ rfl).froz 8 _ rfl
            have cf9 := (HB4.out.box 0 _ _ rfl).froz 9 _ rfl
            have cf10 := (HB4.out.box 0 _ _ rfl).froz 10 _ rfl
            have cf11 := (HB4.out.box 0 _ _ rfl).froz 11 _ rfl
            go_wp2_with fail
            obtain ⟨w8, hw8, HB5⟩ := HB4.out.lane 0 _ B rfl 2 (by omega) 6 7 8 rfl rfl rfl (u 2)
            rw [hw8]
            rw [HQ.out] at HB5
            clear hw8
            go_roundg (4 - (2 + 1) + 1)
            case measure => omega
            case rel => exact ⟨3, rfl, by omega, by omega, HB5⟩
          · have HU : Hid (upS (2 + 1) t u = B) := by rw [← HQ.out]; exact putS_self (hc.trans HM.out)
            clear hc
            rw [ho] at d2
            clear ho
            go_wp2_with fail
            have HB5 := HB3.out
            rw [← HU.out] at HB5
            go_roundg (4 - (2 + 1) + 1)
            case measure => omega
            case rel => exact ⟨3, rfl, by omega, by omega, HB5⟩
        · have HM : Hid (a 2 = A 2) := hc.trans HT.out
          clear hc
          have dl := (HB.out.box 1 _ _ rfl).lt
          have d0 := (HB.out.box 1 _ _ rfl).cell 0 _ rfl
          have d1 := (HB.out.box 1 _ _ rfl).cell 1 _ rfl
          have d2 := (HB.out.box 1 _ _ rfl).cell 2 _ rfl
          have d3 := (HB.out.box 1 _ _ rfl).cell 3 _ rfl
          have el := (HB.out.box 2 _ _ rfl).lt
          have e0 := (HB.out.box 2 _ _ rfl).cell 0 _ rfl
          have e1 := (HB.out.box 2 _ _ rfl).cell 1 _ rfl
          have e2 := (HB.out.box 2 _ _ rfl).cell 2 _ rfl
          have e3 := (HB.out.box 2 _ _ rfl).cell 3 _ rfl
          rw [hf] at e2
          clear hf
          rcases HC.out 2 (by omega) with ⟨ho, hc⟩ | ⟨ho, hc⟩
          · rw [HM.out] at hc
            have CL : Hid (_) := hc
            clear hc
            rw [ho] at d2
            clear ho
            have cl := (HB.out.box 0 _ _ rfl).lt
            have c0 := (HB.out.box 0 _ _ rfl).cell 0 _ rfl
            have c1 := (HB.out.box 0 _ _ rfl).cell 1 _ rfl
            have c2 := (HB.out.box 0 _ _ rfl).cell 2 _ rfl
            have c3 := (HB.out.box 0 _ _ rfl).cell 3 _ rfl
            have c4 := (HB.out.box 0 _ _ rfl).cell 4 _ rfl
            have c5 := (HB.out.box 0 _ _ rfl).cell 5 _ rfl
            have c6 := (HB.out.box 0 _ _ rfl).cell 6 _ rfl
            have c7 := (HB.out.box 0 _ _ rfl).cell 7 _ rfl
            have c8 := (HB.out.box 0 _ _ rfl).cell 8 _ rfl
            have c9 := (HB.out.box 0 _ _ rfl).cell 9 _ rfl
            have c10 := (HB.out.box 0 _ _ rfl).cell 10 _ rfl
            have c11 := (HB.out.box 0 _ _ rfl).cell 11 _ rfl
            go_wp2_with fail
            refine (CL.out _).mono ?_
            rintro r w7 ⟨rfl, hb⟩
            have HB4 : Hid (_) := HB.out.step hb
            clear hb HB CL
            clear cl c0 c1 c2 c3 c4 c5 c6 c7 c8 c9 c10 c11
            clear dl d0 d1 d2 d3
            clear el e0 e1 e2 e3
            have cl := (HB4.out.box 0 _ _ rfl).lt
            have c0 := (HB4.out.box 0 _ _ rfl).cell 0 _ rfl
            have c1 := (HB4.out.box 0 _ _ rfl).cell 1 _ rfl
            have c2 := (HB4.out.box 0 _ _ rfl).cell 2 _ rfl
            have c3 := (HB4.out.box 0 _ _ rfl).cell 3 _ rfl
            have c4 := (HB4.out.box 0 _ _ rfl).cell 4 _ rfl
            have c5 := (HB4.out.box 0 _ _ rfl).cell 5 _ rfl
            have c6 := (HB4.out.box 0 _ _ rfl).cell 6 _ rfl
            have c7 := (HB4.out.box 0 _ _ rfl).cell 7 _ rfl
            have c8 := (HB4.out.box 0 _ _ rfl).cell 8 _ rfl
            have c9 := (HB4.out.box 0 _ _ rfl).cell 9 _ rfl
            have c10 := (HB4.out.box 0 _ _ rfl).cell 10 _ rfl
            have c11 := (HB4.out.box 0 _ _ rfl).cell 11 _ rfl
            have cf0 := (HB4.out.box 0 _ _ rfl).froz 0 _ rfl
            have cf1 := (HB4.out.box 0 _ _ rfl).froz 1 _ rfl
            have cf2 := (HB4.out.box 0 _ _ rfl).froz 2 _ rfl
            have cf3 := (HB4.out.box 0 _ _ rfl).froz 3 _ rfl
            have cf4 := (HB4.out.box 0 _ _ rfl).froz 4 _ rfl
            have cf5 := (HB4.out.box 0 _ _ rfl).froz 5 _ rfl
            have cf6 := (HB4.out.box 0 _ _ rfl).froz 6 _ rfl
            have cf7 := (HB4.out.box 0 _ _ rfl).froz 7 _ rfl
            have cf8 := (HB4.out.box 0 _ _ rfl).froz 8 _ rfl
            have cf9 := (HB4.out.box 0 _ _ rfl).froz 9 _ rfl
            have cf10 := (HB4.out.box 0 _ _ rfl).froz 10 _ rfl
            have cf11 := (HB4.out.box 0 _ _ rfl).froz 11 _ rfl
            go_wp2_with fail
            obtain ⟨w8, hw8, HB5⟩ := HB4.out.lane 0 _ A rfl 2 (by omega) 6 7 8 rfl rfl rfl (u 2)
            rw [hw8]
            rw [HN.out] at HB5
            clear hw8
            go_roundg (4 - (2 + 1) + 1)
            case measure => omega
            case rel => exact ⟨3, rfl, by omega, by omega, HB5⟩
          · have HU : Hid (upS (2 + 1) t u = A) := by rw [← HN.out]; exact putS_self (hc.trans HM.out)
            clear hc
            rw [ho] at d2
            clear ho
            go_wp2_with fail
            have HB5 := HB.out
            rw [← HU.out] at HB5
            go_roundg (4 - (2 + 1) + 1)
            case measure => omega
            case rel => exact ⟨3, rfl, by omega, by omega, HB5⟩
      · rcases HA.out 3 (by omega) with ⟨hf, hc⟩ | ⟨hf, hc⟩
        · rw [HT.out] at hc
          have CK : Hid (_) := hc
          clear hc
          have cl := (HB.out.box 0 _ _ rfl).lt
          have c0 := (HB.out.box 0 _ _ rfl).cell 0 _ rfl
          have c1 := (HB.out.box 0 _ _ rfl).cell 1 _ rfl
          have c2 := (HB.out.box 0 _ _ rfl).cell 2 _ rfl
          have c3 := (HB.out.box 0 _ _ rfl).cell 3 _ rfl
          have c4 := (HB.out.box 0 _ _ rfl).cell 4 _ rfl
          have c5 := (HB.out.box 0 _ _ rfl).cell 5 _ rfl
          have c6 := (HB.out.box 0 _ _ rfl).cell 6 _ rfl
          have c7 := (HB.out.box 0 _ _ rfl).cell 7 _ rfl
          have c8 := (HB.out.box 0 _ _ rfl).cell 8 _ rfl
          have c9 := (HB.out.box 0 _ _ rfl).cell 9 _ rfl
          have c10 := (HB.out.box 0 _ _ rfl).cell 10 _ rfl
          have c11 := (HB.out.box 0 _ _ rfl).cell 11 _ rfl
          have el := (HB.out.box 2 _ _ rfl).lt
          have e0 := (HB.out.box 2 _ _ rfl).cell 0 _ rfl
          have e1 := (HB.out.box 2 _ _ rfl).cell 1 _ rfl
          have e2 := (HB.out.box 2 _ _ rfl).cell 2 _ rfl
          have e3 := (HB.out.box 2 _ _ rfl).cell 3 _ rfl
          rw [hf] at e3
          clear hf
          go_wp2_with fail
          refine (CK.out _).mono ?_
          rintro r w5 ⟨rfl, hb⟩
          have HB2 : Hid (_) := HB.out.step hb
          clear hb HB CK
          clear cl c0 c1 c2 c3 c4 c5 c6 c7 c8 c9 c10 c11
          clear el e0 e1 e2 e3
          obtain ⟨w6, hw6, HB3'⟩ := HB2.out.lane 0 _ A rfl 3 (by omega) 9 10 11 rfl rfl rfl (a 3)
          obtain ⟨B, hB⟩ : ∃ B, B = putS A 3 (a 3) := ⟨_, rfl⟩
          rw [← hB] at HB3'
          have HB3 : Hid (Bxs w [(w.heap.size, [.int .i64 (B 0).m, .bool (B 0).f, .int .i64 (B 0).n, .int .i64 (B 1).m, .bool (B 1).f, .int .i64 (B 1).n, .int .i64 (B 2).m, .bool (B 2).f, .int .i64 (B 2).n, .int .i64 (B 3).m, .bool (B 3).f, .int .i64 (B 3).n]), (w.heap.size + 1, [.bool (o 0), .bool (o 1), .bool (o 2), .bool (o 3)]), (w.heap.size + 1 + 1, [.bool (f 0), .bool (f 1), .bool (f 2), .bool (f 3)]), (w.heap.size + 1 + 1 + 1, [.int .i64 0, .bool false, .int .i64 0, .int .i64 0, .bool false, .int .i64 0, .int .i64 0, .bool false, .int .i64 0, .int .i64 0, .bool false, .int .i64 0])] w6) := HB3'
          have HM : Hid (a 3 = B 3) := by rw [hB]; exact (putS_at _ _ _).symm
          have HQ : Hid (putS B 3 (u 3) = upS (3 + 1) t u) := by rw [hB, putS_putS]; exact HN.out
          clear HB3' hB HN
          have cl := (HB2.out.box 0 _ _ rfl).lt
          have c0 := (HB2.out.box 0 _ _ rfl).cell 0 _ rfl
          have c1 := (HB2.out.box 0 _ _ rfl).cell 1 _ rfl
          have c2 := (HB2.out.box 0 _ _ rfl).cell 2 _ rfl
          have c3 := (HB2.out.box 0 _ _ rfl).cell 3 _ rfl
          have c4 := (HB2.out.box 0 _ _ rfl).cell 4 _ rfl
          have c5 := (HB2.out.box 0 _ _ rfl).cell 5 _ rfl
          have c6 := (HB2.out.box 0 _ _ rfl).cell 6 _ rfl
          have c7 := (HB2.out.box 0 _ _ rfl).cell 7 _ rfl
          have c8 := (HB2.out.box 0 _ _ rfl).cell 8 _ rfl
          have c9 := (HB2.out.box 0 _ _ rfl).cell 9 _ rfl
          have c10 := (HB2.out.box 0 _ _ rfl).cell 10 _ rfl
          have c11 := (HB2.out.box 0 _ _ rfl).cell 11 _ rfl
          have cf0 := (HB2.out.box 0 _ _ rfl).froz 0 _ rfl
          have cf1 := (HB2.out.box 0 _ _ rfl).froz 1 _ rfl
          have cf2 := (HB2.out.box 0 _ _ rfl).froz 2 _ rfl
          have cf3 := (HB2.out.box 0 _ _ rfl).froz 3 _ rfl
          have cf4 := (HB2.out.box 0 _ _ rfl).froz 4 _ rfl
          have cf5 := (HB2.out.box 0 _ _ rfl).froz 5 _ rfl
          have cf6 := (HB2.out.box 0 _ _ rfl).froz 6 _ rfl
          have cf7 := (HB2.out.box 0 _ _ rfl).froz 7 _ rfl
          have cf8 := (HB2.out.box 0 _ _ rfl).froz 8 _ rfl
          have cf9 := (HB2.out.box 0 _ _ rfl).froz 9 _ rfl
          have cf10 := (HB2.out.box 0 _ _ rfl).froz 10 _ rfl
          have cf11 := (HB2.out.box 0 _ _ rfl).froz 11 _ rfl
          go_upto_region 6 with (fail)
          try rw [hw6]
          clear hw6 HB2
          clear cl c0 c1 c2 c3 c4 c5 c6 c7 c8 c9 c10 c11
          clear cf0 cf1 cf2 cf3 cf4 cf5 cf6 cf7 cf8 cf9 cf10 cf11
          have dl := (HB3.out.box 1 _ _ rfl).lt
          have d0 := (HB3.out.box 1 _ _ rfl).cell 0 _ rfl
          have d1 := (HB3.out.box 1 _ _ rfl).cell 1 _ rfl
          have d2 := (HB3.out.box 1 _ _ rfl).cell 2 _ rfl
          have d3 := (HB3.out.box 1 _ _ rfl).cell 3 _ rfl
          rcases HC.out 3 (by omega) with ⟨ho, hc⟩ | ⟨ho, hc⟩
          · rw [HM.out] at hc
            have CL : Hid (_) := hc
            clear hc
            rw [ho] at d3
            clear ho
            have cl := (HB3.out.box 0 _ _ rfl).lt
            have c0 := (HB3.out.box 0 _ _ rfl).cell 0 _ rfl
            have c1 := (HB3.out.box 0 _ _ rfl).cell 1 _ rfl
            have c2 := (HB3.out.box 0 _ _ rfl).cell 2 _ rfl
            have c3 := (HB3.out.box 0 _ _ rfl).cell 3 _ rfl
            have c4 := (HB3.out.box 0 _ _ rfl).cell 4 _ rfl
            have c5 := (HB3.out.box 0 _ _ rfl).cell 5 _ rfl
            have c6 := (HB3.out.box 0 _ _ rfl).cell 6 _ rfl
            have c7 := (HB3.out.box 0 _ _ rfl).cell 7 _ rfl
            have c8 := (HB3.out.box 0 _ _ rfl).cell 8 _ rfl
            have c9 := (HB3.out.box 0 _ _ rfl).cell 9 _ rfl
            have c10 := (HB3.out.box 0 _ _ rfl).cell 10 _ rfl
            have c11 := (HB3.out.box 0 _ _ rfl).cell 11 _ rfl
            go_wp2_with fail
            refine (CL.out _).mono ?_
            rintro r w7 ⟨rfl, hb⟩
            have HB4 : Hid (_) := HB3.out.step hb
            clear hb HB3 CL
            clear cl c0 c1 c2 c3 c4 c5 c6 c7 c8 c9 c10 c11
            clear dl d0 d1 d2 d3
            have cl := (HB4.out.box 0 _ _ rfl).lt
            have c0 := (HB4.out.box 0 _ _ rfl).cell 0 _ rfl
            have c1 := (HB4.out.box 0 _ _ rfl).cell 1 _ rfl
            have c2 := (HB4.out.box 0 _ _ rfl).cell 2 _ rfl
            have c3 := (HB4.out.box 0 _ _ rfl).cell 3 _ rfl
            have c4 := (HB4.out.box 0 _ _ rfl).cell 4 _ rfl
            have c5 := (HB4.out.box 0 _ _ rfl).cell 5 _ rfl
            have c6 := (HB4.out.box 0 _ _ rfl).cell 6 _ rfl
            have c7 := (HB4.out.box 0 _ _ rfl).cell 7 _ rfl
            have c8 := (HB4.out.box 0 _ _ rfl).cell 8 _ rfl
            have c9 := (HB4.out.box 0 _ _ rfl).cell 9 _ rfl
            have c10 := (HB4.out.box 0 _ _ rfl).cell 10 _ rfl
            have c11 := (HB4.out.box 0 _ _ rfl).cell 11 _ rfl
            have cf0 := (HB4.out.box 0 _ _ rfl).froz 0 _ rfl
            have cf1 := (HB4.out.box 0 _ _ rfl).froz 1 _ rfl
            have cf2 := (HB4.out.box 0 _ _ rfl).froz 2 _ rfl
            have cf3 := (HB4.out.box 0 _ _ rfl).froz 3 _ rfl
            have cf4 := (HB4.out.box 0 _ _ rfl).froz 4 _ rfl
            have cf5 := (HB4.out.box 0 _ _ rfl).froz 5 _ rfl
            have cf6 := (HB4.out.box 0 _ _ rfl).froz 6 _ rfl
            have cf7 := (HB4.out.box 0 _ _ rfl).froz 7 _ rfl
            have cf8 := (HB4.out.box 0 _ _ rfl).froz 8 _ rfl
            have cf9 := (HB4.out.box 0 _ _ rfl).froz 9 _ rfl
            have cf10 := (HB4.out.box 0 _ _ rfl).froz 10 _ rfl
            have cf11 := (HB4.out.box 0 _ _ rfl).froz 11 _ rfl
            go_wp2_with fail
            obtain ⟨w8, hw8, HB5⟩ := HB4.out.lane 0 _ B rfl 3 (by omega) 9 10 11 rfl rfl rfl (u 3)
            rw [hw8]
            rw [HQ.out] at HB5
            clear hw8
            go_roundg (4 - (3 + 1) + 1)
            case measure => omega
            case rel => exact ⟨4, rfl, by omega, by omega, HB5⟩
          · have HU : Hid (upS (3 + 1) t u = B) := by rw [← HQ.out]; exact putS_self (hc.trans HM.out)
            clear hc
            rw [ho] at d3
            clear ho
            go_wp2_with fail
            have HB5 := HB3.out
            rw [← HU.out] at HB5
            go_roundg (4 - (3 + 1) + 1)
            case measure => omega
            case rel => exact ⟨4, rfl, by omega, by omega, HB5⟩
        · have HM : Hid (a 3 = A 3) := hc.trans HT.out
          clear hc
          have dl := (HB.out.box 1 _ _ rfl).lt
          have d0 := (HB.out.box 1 _ _ rfl).cell 0 _ rfl
          have d1 := (HB.out.box 1 _ _ rfl).cell 1 _ rfl
          have d2 := (HB.out.box 1 _ _ rfl).cell 2 _ rfl
          have d3 := (HB.out.box 1 _ _ rfl).cell 3 _ rfl
          have el := (HB.out.box 2 _ _ rfl).lt
          have e0 := (HB.out.box 2 _ _ rfl).cell 0 _ rfl
          have e1 := (HB.out.box 2 _ _ rfl).cell 1 _ rfl
          have e2 := (HB.out.box 2 _ _ rfl).cell 2 _ rfl
          have e3 := (HB.out.box 2 _ _ rfl).cell 3 _ rfl
          rw [hf] at e3
          clear hf
          rcases HC.out 3 (by omega) with ⟨ho, hc⟩ | ⟨ho, hc⟩
          · rw [HM.out] at hc
            have CL : Hid (_) := hc
            clear hc
            rw [ho] at d3
            clear ho
            have cl := (HB.out.box 0 _ _ rfl).lt
            have c0 := (HB.out.box 0 _ _ rfl).cell 0 _ rfl
            have c1 := (HB.out.box 0 _ _ rfl).cell 1 _ rfl
            have c2 := (HB.out.box 0 _ _ rfl).cell 2 _ rfl
            have c3 := (HB.out.box 0 _ _ rfl).cell 3 _ rfl
            have c4 := (HB.out.box 0 _ _ rfl).cell 4 _ rfl
            have c5 := (HB.out.box 0 _ _ rfl).cell 5 _ rfl
            have c6 := (HB.out.box 0 _ _ rfl).cell 6 _ rfl
            have c7 := (HB.out.box 0 _ _ rfl).cell 7 _ rfl
            have c8 := (HB.out.box 0 _ _ rfl).cell 8 _ rfl
            have c9 := (HB.out.box 0 _ _ rfl).cell 9 _ rfl
            have c10 := (HB.out.box 0 _ _ rfl).cell 10 _ rfl
            have c11 := (HB.out.box 0 _ _ rfl).cell 11 _ rfl
            go_wp2_with fail
            refine (CL.out _).mono ?_
            rintro r w7 ⟨rfl, hb⟩
            have HB4 : Hid (_) := HB.out.step hb
            clear hb HB CL
            clear cl c0 c1 c2 c3 c4 c5 c6 c7 c8 c9 c10 c11
            clear dl d0 d1 d2 d3
            clear el e0 e1 e2 e3
            have cl := (HB4.out.box 0 _ _ rfl).lt
            have c0 := (HB4.out.box 0 _ _ rfl).cell 0 _ rfl
            have c1 := (HB4.out.box 0 _ _ rfl).cell 1 _ rfl
            have c2 := (HB4.out.box 0 _ _ rfl).cell 2 _ rfl
            have c3 := (HB4.out.box 0 _ _ rfl).cell 3 _ rfl
            have c4 := (HB4.out.box 0 _ _ rfl).cell 4 _ rfl
            have c5 := (HB4.out.box 0 _ _ rfl).cell 5 _ rfl
            have c6 := (HB4.out.box 0 _ _ rfl).cell 6 _ rfl
            have c7 := (HB4.out.box 0 _ _ rfl).cell 7 _ rfl
            have c8 := (HB4.out.box 0 _ _ rfl).cell 8 _ rfl
            have c9 := (HB4.out.box 0 _ _ rfl).cell 9 _ rfl
            have c10 := (HB4.out.box 0 _ _ rfl).cell 10 _ rfl
            have c11 := (HB4.out.box 0 _ _ rfl).cell 11 _ rfl
            have cf0 := (HB4.out.box 0 _ _ rfl).froz 0 _ rfl
            have cf1 := (HB4.out.box 0 _ _ rfl).froz 1 _ rfl
            have cf2 := (HB4.out.box 0 _ _ rfl).froz 2 _ rfl
            have cf3 := (HB4.out.box 0 _ _ rfl).froz 3 _ rfl
            have cf4 := (HB4.out.box 0 _ _ rfl).froz 4 _ rfl
            have cf5 := (HB4.out.box 0 _ _ rfl).froz 5 _ rfl
            have cf6 := (HB4.out.box 0 _ _ rfl).froz 6 _ rfl
            have cf7 := (HB4.out.box 0 _ _ rfl).froz 7 _ rfl
            have cf8 := (HB4.out.box 0 _ _ rfl).froz 8 _ rfl
            have cf9 := (HB4.out.box 0 _ _ rfl).froz 9 _ rfl
            have cf10 := (HB4.out.box 0 _ _ rfl).froz 10 _ rfl
            have cf11 := (HB4.out.box 0 _ _ rfl).froz 11 _ rfl
            go_wp2_with fail
            obtain ⟨w8, hw8, HB5⟩ := HB4.out.lane 0 _ A rfl 3 (by omega) 9 10 11 rfl rfl rfl (u 3)
            rw [hw8]
            rw [HN.out] at HB5
            clear hw8
            go_roundg (4 - (3 + 1) + 1)
            case measure => omega
            case rel => exact ⟨4, rfl, by omega, by omega, HB5⟩
          · have HU : Hid (upS (3 + 1) t u = A) := by rw [← HN.out]; exact putS_self (hc.trans HM.out)
            clear hc
            rw [ho] at d3
            clear ho
            go_wp2_with fail
            have HB5 := HB.out
            rw [← HU.out] at HB5
            go_roundg (4 - (3 + 1) + 1)
            case measure => omega
            case rel => exact ⟨4, rfl, by omega, by omega, HB5⟩
    · obtain rfl : j = 4 := by omega
      have cl := (HB.out.box 0 _ _ rfl).lt
      have c0 := (HB.out.box 0 _ _ rfl).cell 0 _ rfl
      have c1 := (HB.out.box 0 _ _ rfl).cell 1 _ rfl
      have c2 := (HB.out.box 0 _ _ rfl).cell 2 _ rfl
      have c3 := (HB.out.box 0 _ _ rfl).cell 3 _ rfl
      have c4 := (HB.out.box 0 _ _ rfl).cell 4 _ rfl
      have c5 := (HB.out.box 0 _ _ rfl).cell 5 _ rfl
      have c6 := (HB.out.box 0 _ _ rfl).cell 6 _ rfl
      have c7 := (HB.out.box 0 _ _ rfl).cell 7 _ rfl
      have c8 := (HB.out.box 0 _ _ rfl).cell 8 _ rfl
      have c9 := (HB.out.box 0 _ _ rfl).cell 9 _ rfl
      have c10 := (HB.out.box 0 _ _ rfl).cell 10 _ rfl
      have c11 := (HB.out.box 0 _ _ rfl).cell 11 _ rfl
      have dl := (HB.out.box 3 _ _ rfl).lt
      have d0 := (HB.out.box 3 _ _ rfl).cell 0 _ rfl
      have d1 := (HB.out.box 3 _ _ rfl).cell 1 _ rfl
      have d2 := (HB.out.box 3 _ _ rfl).cell 2 _ rfl
      have d3 := (HB.out.box 3 _ _ rfl).cell 3 _ rfl
      have d4 := (HB.out.box 3 _ _ rfl).cell 4 _ rfl
      have d5 := (HB.out.box 3 _ _ rfl).cell 5 _ rfl
      have d6 := (HB.out.box 3 _ _ rfl).cell 6 _ rfl
      have d7 := (HB.out.box 3 _ _ rfl).cell 7 _ rfl
      have d8 := (HB.out.box 3 _ _ rfl).cell 8 _ rfl
      have d9 := (HB.out.box 3 _ _ rfl).cell 9 _ rfl
      have d10 := (HB.out.box 3 _ _ rfl).cell 10 _ rfl
      have d11 := (HB.out.box 3 _ _ rfl).cell 11 _ rfl
      have df0 := (HB.out.box 3 _ _ rfl).froz 0 _ rfl
      have df1 := (HB.out.box 3 _ _ rfl).froz 1 _ rfl
      have df2 := (HB.out.box 3 _ _ rfl).froz 2 _ rfl
      have df3 := (HB.out.box 3 _ _ rfl).froz 3 _ rfl
      have df4 := (HB.out.box 3 _ _ rfl).froz 4 _ rfl
      have df5 := (HB.out.box 3 _ _ rfl).froz 5 _ rfl
      have df6 := (HB.out.box 3 _ _ rfl).froz 6 _ rfl
      have df7 := (HB.out.box 3 _ _ rfl).froz 7 _ rfl
      have df8 := (HB.out.box 3 _ _ rfl).froz 8 _ rfl
      have df9 := (HB.out.box 3 _ _ rfl).froz 9 _ rfl
      have df10 := (HB.out.box 3 _ _ rfl).froz 10 _ rfl
      have df11 := (HB.out.box 3 _ _ rfl).froz 11 _ rfl
      go_wp2_with fail
      obtain ⟨w6, hw6, HB3⟩ := HB.out.team 3 _ _ A rfl rfl
      rw [hw6]
      rw [HZ.out] at HB3
      have yl := (HB3.box 3 _ _ rfl).lt
      have y0 := (HB3.box 3 _ _ rfl).cell 0 _ rfl
      have y1 := (HB3.box 3 _ _ rfl).cell 1 _ rfl
      have y2 := (HB3.box 3 _ _ rfl).cell 2 _ rfl
      have y3 := (HB3.box 3 _ _ rfl).cell 3 _ rfl
      have y4 := (HB3.box 3 _ _ rfl).cell 4 _ rfl
      have y5 := (HB3.box 3 _ _ rfl).cell 5 _ rfl
      have y6 := (HB3.box 3 _ _ rfl).cell 6 _ rfl
      have y7 := (HB3.box 3 _ _ rfl).cell 7 _ rfl
      have y8 := (HB3.box 3 _ _ rfl).cell 8 _ rfl
      have y9 := (HB3.box 3 _ _ rfl).cell 9 _ rfl
      have y10 := (HB3.box 3 _ _ rfl).cell 10 _ rfl
      have y11 := (HB3.box 3 _ _ rfl).cell 11 _ rfl
      rw [HZ.out]
      refine bodyPost_ret (by simp [results, Try.results20, go_sem, y0, y1, y2, y3, y4, y5, y6, y7, y8, y9, y10, y11]; try rfl) rfl ?_
      exact ⟨rfl, HB3.bel⟩

end Go.Proofs.Ytnomceopmjlbhaa
