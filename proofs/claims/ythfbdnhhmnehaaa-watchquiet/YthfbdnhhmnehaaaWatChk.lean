/-
  Contracts of watch.Check and the document's WatchErr.
-/
import Derived.Test.YthfbdnhhmnehaaaWat
import Derived.Test.YthfbdnhhmnehaaaRCount
namespace Go.Proofs.Ythfbdnhhmnehaaa
open Go.RowKit
set_option linter.unusedVariables false

/-- five numbers by their place -/
def q5 (a b c d e : Int) (j : Nat) : Int := if j = 0 then a else if j = 1 then b else if j = 2 then c else if j = 3 then d else e
/-- one sign is right; all five are -/
def OkJ (u d m : Int) (M N : Nat → Int) (j : Nat) : Prop := 0 ≤ M j ∧ OkC u d m (N j)
def OkW (u d m : Int) (M N : Nat → Int) : Prop := ∀ j, j < 5 → OkJ u d m M N j
theorem upto_next {P : Nat → Prop} {j : Nat} (h : ∀ k, k < j → P k) (h2 : P j) : ∀ k, k < j + 1 → P k := fun k hk => by
  by_cases z : k < j
  · exact h k z
  · obtain rfl : k = j := by omega
    exact h2
theorem cases5 {j : Nat} (h : j < 5) : j = 0 ∨ j = 1 ∨ j = 2 ∨ j = 3 ∨ j = 4 := by omega
theorem cnt_any (u d m n : Int) (h : ¬ OkC u d m n ∨ OkC u d m n) : ∃ e : Int, (∀ s W, Calls Try.prog 14 #[.agg #[.int .i64 u, .int .i64 d, .int .i64 m], .agg #[.int .i64 n, .bool s]] W fun r w' => r = .returned (.int .i64 e) ∧ Below W.heap.size W w') ∧ (OkC u d m n ∧ e = 0 ∨ ¬ OkC u d m n ∧ e = 1) := by
  rcases h with h | h
  · exact ⟨1, fun s W => check_bad u d m n s W h, Or.inr ⟨h, rfl⟩⟩
  · exact ⟨0, fun s W => check_ok u d m n s W h, Or.inl ⟨h, rfl⟩⟩

set_option maxHeartbeats 8000000 in
set_option maxRecDepth 100000 in
theorem wcheck_any (u d m : Int) (M N : Nat → Int) (s0 s1 s2 s3 s4 : Bool) (E : Int) (w : World) (hE : OkW u d m M N ∧ E = 0 ∨ ¬ OkW u d m M N ∧ E = 1) :
    Calls Try.prog 8 #[.agg #[.int .i32 (M 0), .int .i32 (M 1), .int .i32 (M 2), .int .i32 (M 3), .int .i32 (M 4), .int .i64 u, .int .i64 d, .int .i64 m], .agg #[.int .i64 (N 0), .bool s0, .int .i64 (N 1), .bool s1, .int .i64 (N 2), .bool s2, .int .i64 (N 3), .bool s3, .int .i64 (N 4), .bool s4]] w fun e w' => e = .returned (.int .i64 E) ∧ Below w.heap.size w w' := by
  have B0 : Hid (_) := lay2 w #[.int .i32 (M 0), .int .i32 (M 1), .int .i32 (M 2), .int .i32 (M 3), .int .i32 (M 4), .int .i64 u, .int .i64 d, .int .i64 m] #[.int .i64 (N 0), .bool s0, .int .i64 (N 1), .bool s1, .int .i64 (N 2), .bool s2, .int .i64 (N 3), .bool s3, .int .i64 (N 4), .bool s4] 26 29
  have C0 : Hid (∀ j, j < 5 → OkC u d m (N j) → ∀ s W, Calls Try.prog 14 #[.agg #[.int .i64 u, .int .i64 d, .int .i64 m], .agg #[.int .i64 (N j), .bool s]] W fun r w' => r = .returned (.int .i64 0) ∧ Below W.heap.size W w') := fun j _ h s W => check_ok u d m (N j) s W h
  have C1 : Hid (∀ j, j < 5 → ¬ OkC u d m (N j) → ∀ s W, Calls Try.prog 14 #[.agg #[.int .i64 u, .int .i64 d, .int .i64 m], .agg #[.int .i64 (N j), .bool s]] W fun r w' => r = .returned (.int .i64 1) ∧ Below W.heap.size W w') := fun j _ h s W => check_bad u d m (N j) s W h
  have HM : Hid (∀ j, j < 5 → M j < 0 → E = 1) := fun j hj h => by
    rcases hE with ⟨h1, _⟩ | ⟨_, h2⟩
    · have := (h1 j hj).1
      omega
    · exact h2
  have HN : Hid (∀ j, j < 5 → ¬ OkC u d m (N j) → E = 1) := fun j hj h => by
    rcases hE with ⟨h1, _⟩ | ⟨_, h2⟩
    · exact absurd (h1 j hj).2 h
    · exact h2
  have HO : Hid ((∀ j, j < 5 → OkJ u d m M N j) → E = 0) := fun h => by
    rcases hE with ⟨_, h2⟩ | ⟨h1, _⟩
    · exact h2
    · exact absurd h h1
  obtain ⟨i0, i1, i2, i3, i4⟩ := ixM (M 0) (M 1) (M 2) (M 3) (M 4)
  clear hE
  go_enter Try.func8, Try.ntmps8
  go_wp2_with fail
  go_loopg [10] (6) (fun g q wr => ∃ j : Nat, q = .int .i64 j ∧ 5 - j < g ∧ j ≤ 5 ∧ Hid (∀ k, k < j → OkJ u d m M N k) ∧ Hid (Lay w [[.int .i32 (M 0), .int .i32 (M 1), .int .i32 (M 2), .int .i32 (M 3), .int .i32 (M 4), .int .i64 u, .int .i64 d, .int .i64 m], [.int .i64 (N 0), .bool s0, .int .i64 (N 1), .bool s1, .int .i64 (N 2), .bool s2, .int .i64 (N 3), .bool s3, .int .i64 (N 4), .bool s4]] wr))
  case atStart => exact ⟨0, rfl, by omega, by omega, fun k hk => absurd hk (by omega), B0⟩
  case round =>
    obtain ⟨j, rfl, hg, hj, HK, HB⟩ := hrel
    clear B0
    have pl := (HB.out.blk 0 (w.heap.size) _ rfl rfl).lt
    have p0 := (HB.out.blk 0 (w.heap.size) _ rfl rfl).cell 0 _ rfl
    have p1 := (HB.out.blk 0 (w.heap.size) _ rfl rfl).cell 1 _ rfl
    have p2 := (HB.out.blk 0 (w.heap.size) _ rfl rfl).cell 2 _ rfl
    have p3 := (HB.out.blk 0 (w.heap.size) _ rfl rfl).cell 3 _ rfl
    have p4 := (HB.out.blk 0 (w.heap.size) _ rfl rfl).cell 4 _ rfl
    have p5 := (HB.out.blk 0 (w.heap.size) _ rfl rfl).cell 5 _ rfl
    have p6 := (HB.out.blk 0 (w.heap.size) _ rfl rfl).cell 6 _ rfl
    have p7 := (HB.out.blk 0 (w.heap.size) _ rfl rfl).cell 7 _ rfl
    have ql := (HB.out.blk 1 (w.heap.size + 1) _ rfl rfl).lt
    have q0 := (HB.out.blk 1 (w.heap.size + 1) _ rfl rfl).cell 0 _ rfl
    have q1 := (HB.out.blk 1 (w.heap.size + 1) _ rfl rfl).cell 1 _ rfl
    have q2 := (HB.out.blk 1 (w.heap.size + 1) _ rfl rfl).cell 2 _ rfl
    have q3 := (HB.out.blk 1 (w.heap.size + 1) _ rfl rfl).cell 3 _ rfl
    have q4 := (HB.out.blk 1 (w.heap.size + 1) _ rfl rfl).cell 4 _ rfl
    have q5 := (HB.out.blk 1 (w.heap.size + 1) _ rfl rfl).cell 5 _ rfl
    have q6 := (HB.out.blk 1 (w.heap.size + 1) _ rfl rfl).cell 6 _ rfl
    have q7 := (HB.out.blk 1 (w.heap.size + 1) _ rfl rfl).cell 7 _ rfl
    have q8 := (HB.out.blk 1 (w.heap.size + 1) _ rfl rfl).cell 8 _ rfl
    have q9 := (HB.out.blk 1 (w.heap.size + 1) _ rfl rfl).cell 9 _ rfl
    by_cases hlt : j < 5
    · obtain rfl | rfl | rfl | rfl | rfl := cases5 hlt
      · by_cases h : M 0 < 0
        · have e := HM.out 0 (by omega) h
          subst e
          go_wp2_with fail
          go_ret
          exact ⟨rfl, HB.out.bel⟩
        · by_cases h2 : OkC u d m (N 0)
          · have K2 : Hid (_) := C0.out 0 (by omega) h2
            have K3 : Hid (_) := HK
            have h3 : Hid (OkJ u d m M N 0) := ⟨by omega, h2⟩
            clear h2
            go_wp2_with fail
            go_region_held3 (fun w' => (w'.cell? ⟨w.heap.size, 5, none⟩ = some (.int .i64 u) ∧ w'.cell? ⟨w.heap.size, 6, none⟩ = some (.int .i64 d) ∧ w'.cell? ⟨w.heap.size, 7, none⟩ = some (.int .i64 m)) ∧ w'.cell? ⟨w.heap.size + 1, 0, none⟩ = some (.int .i64 (N 0)) ∧ w'.cell? ⟨w.heap.size + 1, 1, none⟩ = some (.bool s0)) (go_keep) (first | (go_at_call 14; refine (K2.out _ _).mono ?_; rintro r w5 ⟨rfl, hb⟩; have B5 : Hid (Lay w _ w5) := (HB.out.drew).step hb; have a5 := (B5.out.blk 0 (w.heap.size) _ rfl rfl).cell 5 _ rfl; have a6 := (B5.out.blk 0 (w.heap.size) _ rfl rfl).cell 6 _ rfl; have a7 := (B5.out.blk 0 (w.heap.size) _ rfl rfl).cell 7 _ rfl; have b0 := (B5.out.blk 1 (w.heap.size + 1) _ rfl rfl).cell 0 _ rfl; have b1 := (B5.out.blk 1 (w.heap.size + 1) _ rfl rfl).cell 1 _ rfl; clear hb))
            all_goals (try go_wp2_with fail)
            all_goals go_roundg (5 - (0 + 1) + 1)
            case measure => omega
            case rel => exact ⟨1, rfl, by omega, by omega, upto_next K3.out h3.out, B5⟩
          · have e := HN.out 0 (by omega) h2
            subst e
            have K2 : Hid (_) := C1.out 0 (by omega) h2
            clear h2
            go_wp2_with fail
            go_region_held3 (fun w' => (w'.cell? ⟨w.heap.size, 5, none⟩ = some (.int .i64 u) ∧ w'.cell? ⟨w.heap.size, 6, none⟩ = some (.int .i64 d) ∧ w'.cell? ⟨w.heap.size, 7, none⟩ = some (.int .i64 m)) ∧ w'.cell? ⟨w.heap.size + 1, 0, none⟩ = some (.int .i64 (N 0)) ∧ w'.cell? ⟨w.heap.size + 1, 1, none⟩ = some (.bool s0)) (go_keep) (first | (go_at_call 14; refine (K2.out _ _).mono ?_; rintro r w5 ⟨rfl, hb⟩; have B5 : Hid (Lay w _ w5) := (HB.out.drew).step hb; have a5 := (B5.out.blk 0 (w.heap.size) _ rfl rfl).cell 5 _ rfl; have a6 := (B5.out.blk 0 (w.heap.size) _ rfl rfl).cell 6 _ rfl; have a7 := (B5.out.blk 0 (w.heap.size) _ rfl rfl).cell 7 _ rfl; have b0 := (B5.out.blk 1 (w.heap.size + 1) _ rfl rfl).cell 0 _ rfl; have b1 := (B5.out.blk 1 (w.heap.size + 1) _ rfl rfl).cell 1 _ rfl; clear hb))
            all_goals (try go_wp2_with fail)
            all_goals go_ret
            exact ⟨rfl, B5.out.bel⟩
      · by_cases h : M 1 < 0
        · have e := HM.out 1 (by omega) h
          subst e
          go_wp2_with fail
          go_ret
          exact ⟨rfl, HB.out.bel⟩
        · by_cases h2 : OkC u d m (N 1)
          · have K2 : Hid (_) := C0.out 1 (by omega) h2
            have K3 : Hid (_) := HK
            have h3 : Hid (OkJ u d m M N 1) := ⟨by omega, h2⟩
            clear h2
            go_wp2_with fail
            go_region_held3 (fun w' => (w'.cell? ⟨w.heap.size, 5, none⟩ = some (.int .i64 u) ∧ w'.cell? ⟨w.heap.size, 6, none⟩ = some (.int .i64 d) ∧ w'.cell? ⟨w.heap.size, 7, none⟩ = some (.int .i64 m)) ∧ w'.cell? ⟨w.heap.size + 1, 2, none⟩ = some (.int .i64 (N 1)) ∧ w'.cell? ⟨w.heap.size + 1, 3, none⟩ = some (.bool s1)) (go_keep) (first | (go_at_call 14; refine (K2.out _ _).mono ?_; rintro r w5 ⟨rfl, hb⟩; have B5 : Hid (Lay w _ w5) := (HB.out.drew).step hb; have a5 := (B5.out.blk 0 (w.heap.size) _ rfl rfl).cell 5 _ rfl; have a6 := (B5.out.blk 0 (w.heap.size) _ rfl rfl).cell 6 _ rfl; have a7 := (B5.out.blk 0 (w.heap.size) _ rfl rfl).cell 7 _ rfl; have b2 := (B5.out.blk 1 (w.heap.size + 1) _ rfl rfl).cell 2 _ rfl; have b3 := (B5.out.blk 1 (w.heap.size + 1) _ rfl rfl).cell 3 _ rfl; clear hb))
            all_goals (try go_wp2_with fail)
            all_goals go_roundg (5 - (1 + 1) + 1)
            case measure => omega
            case rel => exact ⟨2, rfl, by omega, by omega, upto_next K3.out h3.out, B5⟩
          · have e := HN.out 1 (by omega) h2
            subst e
            have K2 : Hid (_) := C1.out 1 (by omega) h2
            clear h2
            go_wp2_with fail
            go_region_held3 (fun w' => (w'.cell? ⟨w.heap.size, 5, none⟩ = some (.int .i64 u) ∧ w'.cell? ⟨w.heap.size, 6, none⟩ = some (.int .i64 d) ∧ w'.cell? ⟨w.heap.size, 7, none⟩ = some (.int .i64 m)) ∧ w'.cell? ⟨w.heap.size + 1, 2, none⟩ = some (.int .i64 (N 1)) ∧ w'.cell? ⟨w.heap.size + 1, 3, none⟩ = some (.bool s1)) (go_keep) (first | (go_at_call 14; refine (K2.out _ _).mono ?_; rintro r w5 ⟨rfl, hb⟩; have B5 : Hid (Lay w _ w5) := (HB.out.drew).step hb; have a5 := (B5.out.blk 0 (w.heap.size) _ rfl rfl).cell 5 _ rfl; have a6 := (B5.out.blk 0 (w.heap.size) _ rfl rfl).cell 6 _ rfl; have a7 := (B5.out.blk 0 (w.heap.size) _ rfl rfl).cell 7 _ rfl; have b2 := (B5.out.blk 1 (w.heap.size + 1) _ rfl rfl).cell 2 _ rfl; have b3 := (B5.out.blk 1 (w.heap.size + 1) _ rfl rfl).cell 3 _ rfl; clear hb))
            all_goals (try go_wp2_with fail)
            all_goals go_ret
            exact ⟨rfl, B5.out.bel⟩
      · by_cases h : M 2 < 0
        · have e := HM.out 2 (by omega) h
          subst e
          go_wp2_with fail
          go_ret
          exact ⟨rfl, HB.out.bel⟩
        · by_cases h2 : OkC u d m (N 2)
          · have K2 : Hid (_) := C0.out 2 (by omega) h2
            have K3 : Hid (_) := HK
            have h3 : Hid (OkJ u d m M N 2) := ⟨by omega, h2⟩
            clear h2
            go_wp2_with fail
            go_region_held3 (fun w' => (w'.cell? ⟨w.heap.size, 5, none⟩ = some (.int .i64 u) ∧ w'.cell? ⟨w.heap.size, 6, none⟩ = some (.int .i64 d) ∧ w'.cell? ⟨w.heap.size, 7, none⟩ = some (.int .i64 m)) ∧ w'.cell? ⟨w.heap.size + 1, 4, none⟩ = some (.int .i64 (N 2)) ∧ w'.cell? ⟨w.heap.size + 1, 5, none⟩ = some (.bool s2)) (go_keep) (first | (go_at_call 14; refine (K2.out _ _).mono ?_; rintro r w5 ⟨rfl, hb⟩; have B5 : Hid (Lay w _ w5) := (HB.out.drew).step hb; have a5 := (B5.out.blk 0 (w.heap.size) _ rfl rfl).cell 5 _ rfl; have a6 := (B5.out.blk 0 (w.heap.size) _ rfl rfl).cell 6 _ rfl; have a7 := (B5.out.blk 0 (w.heap.size) _ rfl rfl).cell 7 _ rfl; have b4 := (B5.out.blk 1 (w.heap.size + 1) _ rfl rfl).cell 4 _ rfl; have b5 := (B5.out.blk 1 (w.heap.size + 1) _ rfl rfl).cell 5 _ rfl; clear hb))
            all_goals (try go_wp2_with fail)
            all_goals go_roundg (5 - (2 + 1) + 1)
            case measure => omega
            case rel => exact ⟨3, rfl, by omega, by omega, upto_next K3.out h3.out, B5⟩
          · have e := HN.out 2 (by omega) h2
            subst e
            have K2 : Hid (_) := C1.out 2 (by omega) h2
            clear h2
            go_wp2_with fail
            go_region_held3 (fun w' => (w'.cell? ⟨w.heap.size, 5, none⟩ = some (.int .i64 u) ∧ w'.cell? ⟨w.heap.size, 6, none⟩ = some (.int .i64 d) ∧ w'.cell? ⟨w.heap.size, 7, none⟩ = some (.int .i64 m)) ∧ w'.cell? ⟨w.heap.size + 1, 4, none⟩ = some (.int .i64 (N 2)) ∧ w'.cell? ⟨w.heap.size + 1, 5, none⟩ = some (.bool s2)) (go_keep) (first | (go_at_call 14; refine (K2.out _ _).mono ?_; rintro r w5 ⟨rfl, hb⟩; have B5 : Hid (Lay w _ w5) := (HB.out.drew).step hb; have a5 := (B5.out.blk 0 (w.heap.size) _ rfl rfl).cell 5 _ rfl; have a6 := (B5.out.blk 0 (w.heap.size) _ rfl rfl).cell 6 _ rfl; have a7 := (B5.out.blk 0 (w.heap.size) _ rfl rfl).cell 7 _ rfl; have b4 := (B5.out.blk 1 (w.heap.size + 1) _ rfl rfl).cell 4 _ rfl; have b5 := (B5.out.blk 1 (w.heap.size + 1) _ rfl rfl).cell 5 _ rfl; clear hb))
            all_goals (try go_wp2_with fail)
            all_goals go_ret
            exact ⟨rfl, B5.out.bel⟩
      · by_cases h : M 3 < 0
        · have e := HM.out 3 (by omega) h
          subst e
          go_wp2_with fail
          go_ret
          exact ⟨rfl, HB.out.bel⟩
        · by_cases h2 : OkC u d m (N 3)
          · have K2 : Hid (_) := C0.out 3 (by omega) h2
            have K3 : Hid (_) := HK
            have h3 : Hid (OkJ u d m M N 3) := ⟨by omega, h2⟩
            clear h2
            go_wp2_with fail
            go_region_held3 (fun w' => (w'.cell? ⟨w.heap.size, 5, none⟩ = some (.int .i64 u) ∧ w'.cell? ⟨w.heap.size, 6, none⟩ = some (.int .i64 d) ∧ w'.cell? ⟨w.heap.size, 7, none⟩ = some (.int .i64 m)) ∧ w'.cell? ⟨w.heap.size + 1, 6, none⟩ = some (.int .i64 (N 3)) ∧ w'.cell? ⟨w.heap.size + 1, 7, none⟩ = some (.bool s3)) (go_keep) (first | (go_at_call 14; refine (K2.out _ _).mono ?_; rintro r w5 ⟨rfl, hb⟩; have B5 : Hid (Lay w _ w5) := (HB.out.drew).step hb; have a5 := (B5.out.blk 0 (w.heap.size) _ rfl rfl).cell 5 _ rfl; have a6 := (B5.out.blk 0 (w.heap.size) _ rfl rfl).cell 6 _ rfl; have a7 := (B5.out.blk 0 (w.heap.size) _ rfl rfl).cell 7 _ rfl; have b6 := (B5.out.blk 1 (w.heap.size + 1) _ rfl rfl).cell 6 _ rfl; have b7 := (B5.out.blk 1 (w.heap.size + 1) _ rfl rfl).cell 7 _ rfl; clear hb))
            all_goals (try go_wp2_with fail)
            all_goals go_roundg (5 - (3 + 1) + 1)
            case measure => omega
            case rel => exact ⟨4, rfl, by omega, by omega, upto_next K3.out h3.out, B5⟩
          · have e := HN.out 3 (by omega) h2
            subst e
            have K2 : Hid (_) := C1.out 3 (by omega) h2
            clear h2
            go_wp2_with fail
            go_region_held3 (fun w' => (w'.cell? ⟨w.heap.size, 5, none⟩ = some (.int .i64 u) ∧ w'.cell? ⟨w.heap.size, 6, none⟩ = some (.int .i64 d) ∧ w'.cell? ⟨w.heap.size, 7, none⟩ = some (.int .i64 m)) ∧ w'.cell? ⟨w.heap.size + 1, 6, none⟩ = some (.int .i64 (N 3)) ∧ w'.cell? ⟨w.heap.size + 1, 7, none⟩ = some (.bool s3)) (go_keep) (first | (go_at_call 14; refine (K2.out _ _).mono ?_; rintro r w5 ⟨rfl, hb⟩; have B5 : Hid (Lay w _ w5) := (HB.out.drew).step hb; have a5 := (B5.out.blk 0 (w.heap.size) _ rfl rfl).cell 5 _ rfl; have a6 := (B5.out.blk 0 (w.heap.size) _ rfl rfl).cell 6 _ rfl; have a7 := (B5.out.blk 0 (w.heap.size) _ rfl rfl).cell 7 _ rfl; have b6 := (B5.out.blk 1 (w.heap.size + 1) _ rfl rfl).cell 6 _ rfl; have b7 := (B5.out.blk 1 (w.heap.size + 1) _ rfl rfl).cell 7 _ rfl; clear hb))
            all_goals (try go_wp2_with fail)
            all_goals go_ret
            exact ⟨rfl, B5.out.bel⟩
      · by_cases h : M 4 < 0
        · have e := HM.out 4 (by omega) h
          subst e
          go_wp2_with fail
          go_ret
          exact ⟨rfl, HB.out.bel⟩
        · by_cases h2 : OkC u d m (N 4)
          · have K2 : Hid (_) := C0.out 4 (by omega) h2
            have K3 : Hid (_) := HK
            have h3 : Hid (OkJ u d m M N 4) := ⟨by omega, h2⟩
            clear h2
            go_wp2_with fail
            go_region_held3 (fun w' => (w'.cell? ⟨w.heap.size, 5, none⟩ = some (.int .i64 u) ∧ w'.cell? ⟨w.heap.size, 6, none⟩ = some (.int .i64 d) ∧ w'.cell? ⟨w.heap.size, 7, none⟩ = some (.int .i64 m)) ∧ w'.cell? ⟨w.heap.size + 1, 8, none⟩ = some (.int .i64 (N 4)) ∧ w'.cell? ⟨w.heap.size + 1, 9, none⟩ = some (.bool s4)) (go_keep) (first | (go_at_call 14; refine (K2.out _ _).mono ?_; rintro r w5 ⟨rfl, hb⟩; have B5 : Hid (Lay w _ w5) := (HB.out.drew).step hb; have a5 := (B5.out.blk 0 (w.heap.size) _ rfl rfl).cell 5 _ rfl; have a6 := (B5.out.blk 0 (w.heap.size) _ rfl rfl).cell 6 _ rfl; have a7 := (B5.out.blk 0 (w.heap.size) _ rfl rfl).cell 7 _ rfl; have b8 := (B5.out.blk 1 (w.heap.size + 1) _ rfl rfl).cell 8 _ rfl; have b9 := (B5.out.blk 1 (w.heap.size + 1) _ rfl rfl).cell 9 _ rfl; clear hb))
            all_goals (try go_wp2_with fail)
            all_goals go_roundg (5 - (4 + 1) + 1)
            case measure => omega
            case rel => exact ⟨5, rfl, by omega, by omega, upto_next K3.out h3.out, B5⟩
          · have e := HN.out 4 (by omega) h2
            subst e
            have K2 : Hid (_) := C1.out 4 (by omega) h2
            clear h2
            go_wp2_with fail
            go_region_held3 (fun w' => (w'.cell? ⟨w.heap.size, 5, none⟩ = some (.int .i64 u) ∧ w'.cell? ⟨w.heap.size, 6, none⟩ = some (.int .i64 d) ∧ w'.cell? ⟨w.heap.size, 7, none⟩ = some (.int .i64 m)) ∧ w'.cell? ⟨w.heap.size + 1, 8, none⟩ = some (.int .i64 (N 4)) ∧ w'.cell? ⟨w.heap.size + 1, 9, none⟩ = some (.bool s4)) (go_keep) (first | (go_at_call 14; refine (K2.out _ _).mono ?_; rintro r w5 ⟨rfl, hb⟩; have B5 : Hid (Lay w _ w5) := (HB.out.drew).step hb; have a5 := (B5.out.blk 0 (w.heap.size) _ rfl rfl).cell 5 _ rfl; have a6 := (B5.out.blk 0 (w.heap.size) _ rfl rfl).cell 6 _ rfl; have a7 := (B5.out.blk 0 (w.heap.size) _ rfl rfl).cell 7 _ rfl; have b8 := (B5.out.blk 1 (w.heap.size + 1) _ rfl rfl).cell 8 _ rfl; have b9 := (B5.out.blk 1 (w.heap.size + 1) _ rfl rfl).cell 9 _ rfl; clear hb))
            all_goals (try go_wp2_with fail)
            all_goals go_ret
            exact ⟨rfl, B5.out.bel⟩
    · obtain rfl : j = 5 := by omega
      have e := HO.out HK.out
      subst e
      go_wp2_with fail
      go_ret
      exact ⟨rfl, HB.out.bel⟩

set_option maxHeartbeats 8000000 in
set_option maxRecDepth 100000 in
theorem rwerr_any (u d m : Int) (M N : Nat → Int) (s0 s1 s2 s3 s4 : Bool) (E : Int) (w : World) (hE : OkW u d m M N ∧ E = 0 ∨ ¬ OkW u d m M N ∧ E = 1) :
    Calls Try.prog 6 #[.agg #[.int .i32 (M 0), .int .i32 (M 1), .int .i32 (M 2), .int .i32 (M 3), .int .i32 (M 4), .int .i64 u, .int .i64 d, .int .i64 m], .agg #[.int .i64 (N 0), .bool s0, .int .i64 (N 1), .bool s1, .int .i64 (N 2), .bool s2, .int .i64 (N 3), .bool s3, .int .i64 (N 4), .bool s4]] w fun e w' => e = .returned (.int .i64 E) ∧ Below w.heap.size w w' := by
  have B0 : Hid (_) := lay2 w #[.int .i32 (M 0), .int .i32 (M 1), .int .i32 (M 2), .int .i32 (M 3), .int .i32 (M 4), .int .i64 u, .int .i64 d, .int .i64 m] #[.int .i64 (N 0), .bool s0, .int .i64 (N 1), .bool s1, .int .i64 (N 2), .bool s2, .int .i64 (N 3), .bool s3, .int .i64 (N 4), .bool s4] 26 29
  have C0 : Hid (∀ j, j < 5 → OkC u d m (N j) → ∀ s W, Calls Try.prog 12 #[.agg #[.int .i64 u, .int .i64 d, .int .i64 m], .agg #[.int .i64 (N j), .bool s]] W fun r w' => r = .returned (.int .i64 0) ∧ Below W.heap.size W w') := fun j _ h s W => rerr_ok u d m (N j) s W h
  have C1 : Hid (∀ j, j < 5 → ¬ OkC u d m (N j) → ∀ s W, Calls Try.prog 12 #[.agg #[.int .i64 u, .int .i64 d, .int .i64 m], .agg #[.int .i64 (N j), .bool s]] W fun r w' => r = .returned (.int .i64 1) ∧ Below W.heap.size W w') := fun j _ h s W => rerr_bad u d m (N j) s W h
  have HM : Hid (∀ j, j < 5 → M j < 0 → E = 1) := fun j hj h => by
    rcases hE with ⟨h1, _⟩ | ⟨_, h2⟩
    · have := (h1 j hj).1
      omega
    · exact h2
  have HN : Hid (∀ j, j < 5 → ¬ OkC u d m (N j) → E = 1) := fun j hj h => by
    rcases hE with ⟨h1, _⟩ | ⟨_, h2⟩
    · exact absurd (h1 j hj).2 h
    · exact h2
  have HO : Hid ((∀ j, j < 5 → OkJ u d m M N j) → E = 0) := fun h => by
    rcases hE with ⟨_, h2⟩ | ⟨h1, _⟩
    · exact h2
    · exact absurd h h1
  clear hE
  go_enter Try.func6, Try.ntmps6
  go_wp2_with fail
  go_loopg [6] (6) (fun g q wr => ∃ j : Nat, q = .int .i64 j ∧ 5 - j < g ∧ j ≤ 5 ∧ Hid (∀ k, k < j → OkJ u d m M N k) ∧ Hid (Lay w [[.int .i32 (M 0), .int .i32 (M 1), .int .i32 (M 2), .int .i32 (M 3), .int .i32 (M 4), .int .i64 u, .int .i64 d, .int .i64 m], [.int .i64 (N 0), .bool s0, .int .i64 (N 1), .bool s1, .int .i64 (N 2), .bool s2, .int .i64 (N 3), .bool s3, .int .i64 (N 4), .bool s4]] wr))
  case atStart => exact ⟨0, rfl, by omega, by omega, fun k hk => absurd hk (by omega), B0⟩
  case round =>
    obtain ⟨j, rfl, hg, hj, HK, HB⟩ := hrel
    clear B0
    have pl := (HB.out.blk 0 (w.heap.size) _ rfl rfl).lt
    have p0 := (HB.out.blk 0 (w.heap.size) _ rfl rfl).cell 0 _ rfl
    have p1 := (HB.out.blk 0 (w.heap.size) _ rfl rfl).cell 1 _ rfl
    have p2 := (HB.out.blk 0 (w.heap.size) _ rfl rfl).cell 2 _ rfl
    have p3 := (HB.out.blk 0 (w.heap.size) _ rfl rfl).cell 3 _ rfl
    have p4 := (HB.out.blk 0 (w.heap.size) _ rfl rfl).cell 4 _ rfl
    have p5 := (HB.out.blk 0 (w.heap.size) _ rfl rfl).cell 5 _ rfl
    have p6 := (HB.out.blk 0 (w.heap.size) _ rfl rfl).cell 6 _ rfl
    have p7 := (HB.out.blk 0 (w.heap.size) _ rfl rfl).cell 7 _ rfl
    have ql := (HB.out.blk 1 (w.heap.size + 1) _ rfl rfl).lt
    have q0 := (HB.out.blk 1 (w.heap.size + 1) _ rfl rfl).cell 0 _ rfl
    have q1 := (HB.out.blk 1 (w.heap.size + 1) _ rfl rfl).cell 1 _ rfl
    have q2 := (HB.out.blk 1 (w.heap.size + 1) _ rfl rfl).cell 2 _ rfl
    have q3 := (HB.out.blk 1 (w.heap.size + 1) _ rfl rfl).cell 3 _ rfl
    have q4 := (HB.out.blk 1 (w.heap.size + 1) _ rfl rfl).cell 4 _ rfl
    have q5 := (HB.out.blk 1 (w.heap.size + 1) _ rfl rfl).cell 5 _ rfl
    have q6 := (HB.out.blk 1 (w.heap.size + 1) _ rfl rfl).cell 6 _ rfl
    have q7 := (HB.out.blk 1 (w.heap.size + 1) _ rfl rfl).cell 7 _ rfl
    have q8 := (HB.out.blk 1 (w.heap.size + 1) _ rfl rfl).cell 8 _ rfl
    have q9 := (HB.out.blk 1 (w.heap.size + 1) _ rfl rfl).cell 9 _ rfl
    by_cases hlt : j < 5
    · obtain rfl | rfl | rfl | rfl | rfl := cases5 hlt
      · by_cases h : M 0 < 0
        · have e := HM.out 0 (by omega) h
          subst e
          have hd : decide (M 0 < 0) = true := decide_eq_true h
          go_wp2_with fail
          go_quiet (fail)
          go_wp2_with fail
          go_ret
          exact ⟨rfl, below_drewN HB.out.bel _⟩
        · have hd : decide (M 0 < 0) = false := decide_eq_false h
          by_cases h2 : OkC u d m (N 0)
          · have K2 : Hid (_) := C0.out 0 (by omega) h2
            have K3 : Hid (_) := HK
            have h3 : Hid (OkJ u d m M N 0) := ⟨by omega, h2⟩
            clear h2
            go_wp2_with fail
            go_region_held3 (fun w' => ((w'.cell? ⟨w.heap.size, 5, none⟩ = some (.int .i64 u) ∧ w'.cell? ⟨w.heap.size, 0, none⟩ = some (.int .i32 (M 0))) ∧ w'.cell? ⟨w.heap.size, 6, none⟩ = some (.int .i64 d) ∧ w'.cell? ⟨w.heap.size, 7, none⟩ = some (.int .i64 m)) ∧ w'.cell? ⟨w.heap.size + 1, 0, none⟩ = some (.int .i64 (N 0)) ∧ w'.cell? ⟨w.heap.size + 1, 1, none⟩ = some (.bool s0)) (go_keep) (first | (go_at_call 12; refine (K2.out _ _).mono ?_; rintro r w5 ⟨rfl, hb⟩; have B5 : Hid (Lay w _ w5) := (HB.out.drew).step hb; have a0 := (B5.out.blk 0 (w.heap.size) _ rfl rfl).cell 0 _ rfl; have a5 := (B5.out.blk 0 (w.heap.size) _ rfl rfl).cell 5 _ rfl; have a6 := (B5.out.blk 0 (w.heap.size) _ rfl rfl).cell 6 _ rfl; have a7 := (B5.out.blk 0 (w.heap.size) _ rfl rfl).cell 7 _ rfl; have b0 := (B5.out.blk 1 (w.heap.size + 1) _ rfl rfl).cell 0 _ rfl; have b1 := (B5.out.blk 1 (w.heap.size + 1) _ rfl rfl).cell 1 _ rfl; clear hb))
            all_goals (try go_wp2_with fail)
            all_goals go_roundg (5 - (0 + 1) + 1)
            case measure => omega
            case rel => exact ⟨1, rfl, by omega, by omega, upto_next K3.out h3.out, B5⟩
          · have e := HN.out 0 (by omega) h2
            subst e
            have K2 : Hid (_) := C1.out 0 (by omega) h2
            clear h2
            go_wp2_with fail
            go_region_held3 (fun w' => ((w'.cell? ⟨w.heap.size, 5, none⟩ = some (.int .i64 u) ∧ w'.cell? ⟨w.heap.size, 0, none⟩ = some (.int .i32 (M 0))) ∧ w'.cell? ⟨w.heap.size, 6, none⟩ = some (.int .i64 d) ∧ w'.cell? ⟨w.heap.size, 7, none⟩ = some (.int .i64 m)) ∧ w'.cell? ⟨w.heap.size + 1, 0, none⟩ = some (.int .i64 (N 0)) ∧ w'.cell? ⟨w.heap.size + 1, 1, none⟩ = some (.bool s0)) (go_keep) (first | (go_at_call 12; refine (K2.out _ _).mono ?_; rintro r w5 ⟨rfl, hb⟩; have B5 : Hid (Lay w _ w5) := (HB.out.drew).step hb; have a0 := (B5.out.blk 0 (w.heap.size) _ rfl rfl).cell 0 _ rfl; have a5 := (B5.out.blk 0 (w.heap.size) _ rfl rfl).cell 5 _ rfl; have a6 := (B5.out.blk 0 (w.heap.size) _ rfl rfl).cell 6 _ rfl; have a7 := (B5.out.blk 0 (w.heap.size) _ rfl rfl).cell 7 _ rfl; have b0 := (B5.out.blk 1 (w.heap.size + 1) _ rfl rfl).cell 0 _ rfl; have b1 := (B5.out.blk 1 (w.heap.size + 1) _ rfl rfl).cell 1 _ rfl; clear hb))
            all_goals (try go_wp2_with fail)
            all_goals go_ret
            exact ⟨rfl, B5.out.bel⟩
      · by_cases h : M 1 < 0
        · have e := HM.out 1 (by omega) h
          subst e
          have hd : decide (M 1 < 0) = true := decide_eq_true h
          go_wp2_with fail
          go_quiet (fail)
          go_wp2_with fail
          go_ret
          exact ⟨rfl, below_drewN HB.out.bel _⟩
        · have hd : decide (M 1 < 0) = false := decide_eq_false h
          by_cases h2 : OkC u d m (N 1)
          · have K2 : Hid (_) := C0.out 1 (by omega) h2
            have K3 : Hid (_) := HK
            have h3 : Hid (OkJ u d m M N 1) := ⟨by omega, h2⟩
            clear h2
            go_wp2_with fail
            go_region_held3 (fun w' => ((w'.cell? ⟨w.heap.size, 5, none⟩ = some (.int .i64 u) ∧ w'.cell? ⟨w.heap.size, 1, none⟩ = some (.int .i32 (M 1))) ∧ w'.cell? ⟨w.heap.size, 6, none⟩ = some (.int .i64 d) ∧ w'.cell? ⟨w.heap.size, 7, none⟩ = some (.int .i64 m)) ∧ w'.cell? ⟨w.heap.size + 1, 2, none⟩ = some (.int .i64 (N 1)) ∧ w'.cell? ⟨w.heap.size + 1, 3, none⟩ = some (.bool s1)) (go_keep) (first | (go_at_call 12; refine (K2.out _ _).mono ?_; rintro r w5 ⟨rfl, hb⟩; have B5 : Hid (Lay w _ w5) := (HB.out.drew).step hb; have a1 := (B5.out.blk 0 (w.heap.size) _ rfl rfl).cell 1 _ rfl; have a5 := (B5.out.blk 0 (w.heap.size) _ rfl rfl).cell 5 _ rfl; have a6 := (B5.out.blk 0 (w.heap.size) _ rfl rfl).cell 6 _ rfl; have a7 := (B5.out.blk 0 (w.heap.size) _ rfl rfl).cell 7 _ rfl; have b2 := (B5.out.blk 1 (w.heap.size + 1) _ rfl rfl).cell 2 _ rfl; have b3 := (B5.out.blk 1 (w.heap.size + 1) _ rfl rfl).cell 3 _ rfl; clear hb))
            all_goals (try go_wp2_with fail)
            all_goals go_roundg (5 - (1 + 1) + 1)
            case measure => omega
            case rel => exact ⟨2, rfl, by omega, by omega, upto_next K3.out h3.out, B5⟩
          · have e := HN.out 1 (by omega) h2
            subst e
            have K2 : Hid (_) := C1.out 1 (by omega) h2
            clear h2
            go_wp2_with fail
            go_region_held3 (fun w' => ((w'.cell? ⟨w.heap.size, 5, none⟩ = some (.int .i64 u) ∧ w'.cell? ⟨w.heap.size, 1, none⟩ = some (.int .i32 (M 1))) ∧ w'.cell? ⟨w.heap.size, 6, none⟩ = some (.int .i64 d) ∧ w'.cell? ⟨w.heap.size, 7, none⟩ = some (.int .i64 m)) ∧ w'.cell? ⟨w.heap.size + 1, 2, none⟩ = some (.int .i64 (N 1)) ∧ w'.cell? ⟨w.heap.size + 1, 3, none⟩ = some (.bool s1)) (go_keep) (first | (go_at_call 12; refine (K2.out _ _).mono ?_; rintro r w5 ⟨rfl, hb⟩; have B5 : Hid (Lay w _ w5) := (HB.out.drew).step hb; have a1 := (B5.out.blk 0 (w.heap.size) _ rfl rfl).cell 1 _ rfl; have a5 := (B5.out.blk 0 (w.heap.size) _ rfl rfl).cell 5 _ rfl; have a6 := (B5.out.blk 0 (w.heap.size) _ rfl rfl).cell 6 _ rfl; have a7 := (B5.out.blk 0 (w.heap.size) _ rfl rfl).cell 7 _ rfl; have b2 := (B5.out.blk 1 (w.heap.size + 1) _ rfl rfl).cell 2 _ rfl; have b3 := (B5.out.blk 1 (w.heap.size + 1) _ rfl rfl).cell 3 _ rfl; clear hb))
            all_goals (try go_wp2_with fail)
            all_goals go_ret
            exact ⟨rfl, B5.out.bel⟩
      · by_cases h : M 2 < 0
        · have e := HM.out 2 (by omega) h
          subst e
          have hd : decide (M 2 < 0) = true := decide_eq_true h
          go_wp2_with fail
          go_quiet (fail)
          go_wp2_with fail
          go_ret
          exact ⟨rfl, below_drewN HB.out.bel _⟩
        · have hd : decide (M 2 < 0) = false := decide_eq_false h
          by_cases h2 : OkC u d m (N 2)
          · have K2 : Hid (_) := C0.out 2 (by omega) h2
            have K3 : Hid (_) := HK
            have h3 : Hid (OkJ u d m M N 2) := ⟨by omega, h2⟩
            clear h2
            go_wp2_with fail
            go_region_held3 (fun w' => ((w'.cell? ⟨w.heap.size, 5, none⟩ = some (.int .i64 u) ∧ w'.cell? ⟨w.heap.size, 2, none⟩ = some (.int .i32 (M 2))) ∧ w'.cell? ⟨w.heap.size, 6, none⟩ = some (.int .i64 d) ∧ w'.cell? ⟨w.heap.size, 7, none⟩ = some (.int .i64 m)) ∧ w'.cell? ⟨w.heap.size + 1, 4, none⟩ = some (.int .i64 (N 2)) ∧ w'.cell? ⟨w.heap.size + 1, 5, none⟩ = some (.bool s2)) (go_keep) (first | (go_at_call 12; refine (K2.out _ _).mono ?_; rintro r w5 ⟨rfl, hb⟩; have B5 : Hid (Lay w _ w5) := (HB.out.drew).step hb; have a2 := (B5.out.blk 0 (w.heap.size) _ rfl rfl).cell 2 _ rfl; have a5 := (B5.out.blk 0 (w.heap.size) _ rfl rfl).cell 5 _ rfl; have a6 := (B5.out.blk 0 (w.heap.size) _ rfl rfl).cell 6 _ rfl; have a7 := (B5.out.blk 0 (w.heap.size) _ rfl rfl).cell 7 _ rfl; have b4 := (B5.out.blk 1 (w.heap.size + 1) _ rfl rfl).cell 4 _ rfl; have b5 := (B5.out.blk 1 (w.heap.size + 1) _ rfl rfl).cell 5 _ rfl; clear hb))
            all_goals (try go_wp2_with fail)
            all_goals go_roundg (5 - (2 + 1) + 1)
            case measure => omega
            case rel => exact ⟨3, rfl, by omega, by omega, upto_next K3.out h3.out, B5⟩
          · have e := HN.out 2 (by omega) h2
            subst e
            have K2 : Hid (_) := C1.out 2 (by omega) h2
            clear h2
            go_wp2_with fail
            go_region_held3 (fun w' => ((w'.cell? ⟨w.heap.size, 5, none⟩ = some (.int .i64 u) ∧ w'.cell? ⟨w.heap.size, 2, none⟩ = some (.int .i32 (M 2))) ∧ w'.cell? ⟨w.heap.size, 6, none⟩ = some (.int .i64 d) ∧ w'.cell? ⟨w.heap.size, 7, none⟩ = some (.int .i64 m)) ∧ w'.cell? ⟨w.heap.size + 1, 4, none⟩ = some (.int .i64 (N 2)) ∧ w'.cell? ⟨w.heap.size + 1, 5, none⟩ = some (.bool s2)) (go_keep) (first | (go_at_call 12; refine (K2.out _ _).mono ?_; rintro r w5 ⟨rfl, hb⟩; have B5 : Hid (Lay w _ w5) := (HB.out.drew).step hb; have a2 := (B5.out.blk 0 (w.heap.size) _ rfl rfl).cell 2 _ rfl; have a5 := (B5.out.blk 0 (w.heap.size) _ rfl rfl).cell 5 _ rfl; have a6 := (B5.out.blk 0 (w.heap.size) _ rfl rfl).cell 6 _ rfl; have a7 := (B5.out.blk 0 (w.heap.size) _ rfl rfl).cell 7 _ rfl; have b4 := (B5.out.blk 1 (w.heap.size + 1) _ rfl rfl).cell 4 _ rfl; have b5 := (B5.out.blk 1 (w.heap.size + 1) _ rfl rfl).cell 5 _ rfl; clear hb))
            all_goals (try go_wp2_with fail)
            all_goals go_ret
            exact ⟨rfl, B5.out.bel⟩
      · by_cases h : M 3 < 0
        · have e := HM.out 3 (by omega) h
          subst e
          have hd : decide (M 3 < 0) = true := decide_eq_true h
          go_wp2_with fail
          go_quiet (fail)
          go_wp2_with fail
          go_ret
          exact ⟨rfl, below_drewN HB.out.bel _⟩
        · have hd : decide (M 3 < 0) = false := decide_eq_false h
          by_cases h2 : OkC u d m (N 3)
          · have K2 : Hid (_) := C0.out 3 (by omega) h2
            have K3 : Hid (_) := HK
            have h3 : Hid (OkJ u d m M N 3) := ⟨by omega, h2⟩
            clear h2
            go_wp2_with fail
            go_region_held3 (fun w' => ((w'.cell? ⟨w.heap.size, 5, none⟩ = some (.int .i64 u) ∧ w'.cell? ⟨w.heap.size, 3, none⟩ = some (.int .i32 (M 3))) ∧ w'.cell? ⟨w.heap.size, 6, none⟩ = some (.int .i64 d) ∧ w'.cell? ⟨w.heap.size, 7, none⟩ = some (.int .i64 m)) ∧ w'.cell? ⟨w.heap.size + 1, 6, none⟩ = some (.int .i64 (N 3)) ∧ w'.cell? ⟨w.heap.size + 1, 7, none⟩ = some (.bool s3)) (go_keep) (first | (go_at_call 12; refine (K2.out _ _).mono ?_; rintro r w5 ⟨rfl, hb⟩; have B5 : Hid (Lay w _ w5) := (HB.out.drew).step hb; have a3 := (B5.out.blk 0 (w.heap.size) _ rfl rfl).cell 3 _ rfl; have a5 := (B5.out.blk 0 (w.heap.size) _ rfl rfl).cell 5 _ rfl; have a6 := (B5.out.blk 0 (w.heap.size) _ rfl rfl).cell 6 _ rfl; have a7 := (B5.out.blk 0 (w.heap.size) _ rfl rfl).cell 7 _ rfl; have b6 := (B5.out.blk 1 (w.heap.size + 1) _ rfl rfl).cell 6 _ rfl; have b7 := (B5.out.blk 1 (w.heap.size + 1) _ rfl rfl).cell 7 _ rfl; clear hb))
            all_goals (try go_wp2_with fail)
            all_goals go_roundg (5 - (3 + 1) + 1)
            case measure => omega
            case rel => exact ⟨4, rfl, by omega, by omega, upto_next K3.out h3.out, B5⟩
          · have e := HN.out 3 (by omega) h2
            subst e
            have K2 : Hid (_) := C1.out 3 (by omega) h2
            clear h2
            go_wp2_with fail
            go_region_held3 (fun w' => ((w'.cell? ⟨w.heap.size, 5, none⟩ = some (.int .i64 u) ∧ w'.cell? ⟨w.heap.size, 3, none⟩ = some (.int .i32 (M 3))) ∧ w'.cell? ⟨w.heap.size, 6, none⟩ = some (.int .i64 d) ∧ w'.cell? ⟨w.heap.size, 7, none⟩ = some (.int .i64 m)) ∧ w'.cell? ⟨w.heap.size + 1, 6, none⟩ = some (.int .i64 (N 3)) ∧ w'.cell? ⟨w.heap.size + 1, 7, none⟩ = some (.bool s3)) (go_keep) (first | (go_at_call 12; refine (K2.out _ _).mono ?_; rintro r w5 ⟨rfl, hb⟩; have B5 : Hid (Lay w _ w5) := (HB.out.drew).step hb; have a3 := (B5.out.blk 0 (w.heap.size) _ rfl rfl).cell 3 _ rfl; have a5 := (B5.out.blk 0 (w.heap.size) _ rfl rfl).cell 5 _ rfl; have a6 := (B5.out.blk 0 (w.heap.size) _ rfl rfl).cell 6 _ rfl; have a7 := (B5.out.blk 0 (w.heap.size) _ rfl rfl).cell 7 _ rfl; have b6 := (B5.out.blk 1 (w.heap.size + 1) _ rfl rfl).cell 6 _ rfl; have b7 := (B5.out.blk 1 (w.heap.size + 1) _ rfl rfl).cell 7 _ rfl; clear hb))
            all_goals (try go_wp2_with fail)
            all_goals go_ret
            exact ⟨rfl, B5.out.bel⟩
      · by_cases h : M 4 < 0
        · have e := HM.out 4 (by omega) h
          subst e
          have hd : decide (M 4 < 0) = true := decide_eq_true h
          go_wp2_with fail
          go_quiet (fail)
          go_wp2_with fail
          go_ret
          exact ⟨rfl, below_drewN HB.out.bel _⟩
        · have hd : decide (M 4 < 0) = false := decide_eq_false h
          by_cases h2 : OkC u d m (N 4)
          · have K2 : Hid (_) := C0.out 4 (by omega) h2
            have K3 : Hid (_) := HK
            have h3 : Hid (OkJ u d m M N 4) := ⟨by omega, h2⟩
            clear h2
            go_wp2_with fail
            go_region_held3 (fun w' => ((w'.cell? ⟨w.heap.size, 5, none⟩ = some (.int .i64 u) ∧ w'.cell? ⟨w.heap.size, 4, none⟩ = some (.int .i32 (M 4))) ∧ w'.cell? ⟨w.heap.size, 6, none⟩ = some (.int .i64 d) ∧ w'.cell? ⟨w.heap.size, 7, none⟩ = some (.int .i64 m)) ∧ w'.cell? ⟨w.heap.size + 1, 8, none⟩ = some (.int .i64 (N 4)) ∧ w'.cell? ⟨w.heap.size + 1, 9, none⟩ = some (.bool s4)) (go_keep) (first | (go_at_call 12; refine (K2.out _ _).mono ?_; rintro r w5 ⟨rfl, hb⟩; have B5 : Hid (Lay w _ w5) := (HB.out.drew).step hb; have a4 := (B5.out.blk 0 (w.heap.size) _ rfl rfl).cell 4 _ rfl; have a5 := (B5.out.blk 0 (w.heap.size) _ rfl rfl).cell 5 _ rfl; have a6 := (B5.out.blk 0 (w.heap.size) _ rfl rfl).cell 6 _ rfl; have a7 := (B5.out.blk 0 (w.heap.size) _ rfl rfl).cell 7 _ rfl; have b8 := (B5.out.blk 1 (w.heap.size + 1) _ rfl rfl).cell 8 _ rfl; have b9 := (B5.out.blk 1 (w.heap.size + 1) _ rfl rfl).cell 9 _ rfl; clear hb))
            all_goals (try go_wp2_with fail)
            all_goals go_roundg (5 - (4 + 1) + 1)
            case measure => omega
            case rel => exact ⟨5, rfl, by omega, by omega, upto_next K3.out h3.out, B5⟩
          · have e := HN.out 4 (by omega) h2
            subst e
            have K2 : Hid (_) := C1.out 4 (by omega) h2
            clear h2
            go_wp2_with fail
            go_region_held3 (fun w' => ((w'.cell? ⟨w.heap.size, 5, none⟩ = some (.int .i64 u) ∧ w'.cell? ⟨w.heap.size, 4, none⟩ = some (.int .i32 (M 4))) ∧ w'.cell? ⟨w.heap.size, 6, none⟩ = some (.int .i64 d) ∧ w'.cell? ⟨w.heap.size, 7, none⟩ = some (.int .i64 m)) ∧ w'.cell? ⟨w.heap.size + 1, 8, none⟩ = some (.int .i64 (N 4)) ∧ w'.cell? ⟨w.heap.size + 1, 9, none⟩ = some (.bool s4)) (go_keep) (first | (go_at_call 12; refine (K2.out _ _).mono ?_; rintro r w5 ⟨rfl, hb⟩; have B5 : Hid (Lay w _ w5) := (HB.out.drew).step hb; have a4 := (B5.out.blk 0 (w.heap.size) _ rfl rfl).cell 4 _ rfl; have a5 := (B5.out.blk 0 (w.heap.size) _ rfl rfl).cell 5 _ rfl; have a6 := (B5.out.blk 0 (w.heap.size) _ rfl rfl).cell 6 _ rfl; have a7 := (B5.out.blk 0 (w.heap.size) _ rfl rfl).cell 7 _ rfl; have b8 := (B5.out.blk 1 (w.heap.size + 1) _ rfl rfl).cell 8 _ rfl; have b9 := (B5.out.blk 1 (w.heap.size + 1) _ rfl rfl).cell 9 _ rfl; clear hb))
            all_goals (try go_wp2_with fail)
            all_goals go_ret
            exact ⟨rfl, B5.out.bel⟩
    · obtain rfl : j = 5 := by omega
      have e := HO.out HK.out
      subst e
      go_wp2_with fail
      go_ret
      exact ⟨rfl, HB.out.bel⟩

end Go.Proofs.Ythfbdnhhmnehaaa
