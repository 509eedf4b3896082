/-
  Contracts: the document's own answers of filters (package steadref: Low, abs, Rate, Dead, Trip) return what a plain function of whole numbers gives, and leave memory as it was.
-/
import Derived.Test.YtihcioghbidblaaFilt
import Derived.Test.YtihcioghbidblaaRefSat
import Derived.Deep.LoopGhost
namespace Go.Proofs.Ytihcioghbidblaa
open Go.RowKit
set_option linter.unusedVariables false

theorem div_le {S : Int} (h : 0 ≤ S) (k : Nat) : 0 ≤ S / 2 ^ k ∧ S / 2 ^ k ≤ S :=
  ⟨Int.ediv_nonneg h (by have := pow2_pos k; omega), Int.ediv_le_self _ h⟩

set_option maxHeartbeats 1000000 in
theorem rlow_core (y x S : Int) (n : Nat) (y1 : -2147483648 ≤ y) (y2 : y ≤ 2147483647) (x1 : -2147483648 ≤ x) (x2 : x ≤ 2147483647) (hn : n ≤ 30) (hd : 0 ≤ x - y ∧ S = x - y ∨ x - y < 0 ∧ S = -(x - y)) (w : World) :
    Calls Try.prog 35 #[.int .i32 y, .int .i32 x, .int .i64 n] w fun e w' => e = .returned (.int .i32 (lowI y x n)) ∧ w' = w := by
  have main : ∀ neg : Bool, neg = decide (x - y < 0) → Calls Try.prog 35 #[.int .i32 y, .int .i32 x, .int .i64 n] w fun e w' => e = .returned (.int .i32 (lowI y x n)) ∧ w' = w := by
    intro neg hneg
    have S0 : 0 ≤ S := by omega
    have S1 : S ≤ 4294967295 := by omega
    have fin : ∀ Z : Int, Z = S / 2 ^ n → lowI y x n = y + (if x - y < 0 then -(if Z = 0 then 1 else Z) else if x - y = 0 then 0 else if Z = 0 then 1 else Z) := by
      intro Z hZ
      unfold lowI
      have p1 := pow2_pos n
      have hz0 : Z = 0 → S < 2 ^ n := fun h => by
        rcases Int.lt_or_le S (2 ^ n) with q | q
        · exact q
        · have := (Int.le_ediv_iff_mul_le (c := 2 ^ n) (by omega)).2 (show 1 * 2 ^ n ≤ S by omega)
          omega
      have hz1 : Z ≠ 0 → 2 ^ n ≤ S := fun h => by
        rcases Int.lt_or_le S (2 ^ n) with q | q
        · exact absurd (hZ.trans (Int.ediv_eq_zero_of_lt S0 q)) h
        · exact q
      rcases hd with ⟨h1, h2⟩ | ⟨h1, h2⟩
      · rw [if_neg (by omega)]
        by_cases e : x - y = 0
        · rw [if_pos e, e, step_zero]
        · rw [if_neg e]
          by_cases ez : Z = 0
          · rw [if_pos ez, step_pos1 (by omega) (by have := hz0 ez; omega)]
          · rw [if_neg ez, step_pos2 (by omega) (by have := hz1 ez; omega), hZ, h2]
      · rw [if_pos h1]
        by_cases ez : Z = 0
        · rw [if_pos ez, step_neg1 h1 (by have := hz0 ez; omega)]
        · rw [if_neg ez, step_neg2 h1 (by have := hz1 ez; omega), hZ, h2]
    have FIN : Hid (∀ Z : Int, Z = S / 2 ^ n → lowI y x n = y + (if x - y < 0 then -(if Z = 0 then 1 else Z) else if x - y = 0 then 0 else if Z = 0 then 1 else Z)) := fin
    clear fin
    cases neg
    · have d0 : ¬ x - y < 0 := of_decide_eq_false hneg.symm
      obtain rfl : S = x - y := by omega
      clear hneg hd
      go_enter Try.func35, Try.ntmps35
      go_wp2_with fail
      go_loopg [8, 20] (n + 1) (fun g s t wr => ∃ j : Nat, s = .int .i64 ((x - y) / 2 ^ j) ∧ t = .int .i64 j ∧ n - j < g ∧ j ≤ n ∧ wr = w)
      case atStart => exact ⟨0, by simp, rfl, by omega, by omega, rfl⟩
      case round =>
        obtain ⟨j, rfl, rfl, hg, hj, rfl⟩ := hrel
        obtain ⟨q1, q2⟩ := div_le S0 j
        by_cases hlt : j < n
        · have z1 : (j : Int) < (n : Int) := by omega
          have hs := div_step (x - y) j
          have HS : Hid ((x - y) / 2 ^ j / 2 = (x - y) / 2 ^ (j + 1)) := hs
          clear hs
          generalize (x - y) / 2 ^ j = A at q1 q2 HS ⊢
          go_wp2_with fail
          go_roundg (n - (j + 1) + 1)
          case measure => omega
          case rel => exact ⟨j + 1, by rw [HS.out], by go_num, by omega, by omega, rfl⟩
        · have z1 : ¬ (j : Int) < (n : Int) := by omega
          obtain rfl : j = n := by omega
          have HF : Hid (lowI y x j = y + (if x - y < 0 then -(if (x - y) / 2 ^ j = 0 then 1 else (x - y) / 2 ^ j) else if x - y = 0 then 0 else if (x - y) / 2 ^ j = 0 then 1 else (x - y) / 2 ^ j)) := FIN.out _ rfl
          clear FIN
          generalize (x - y) / 2 ^ j = A at q1 q2 HF ⊢
          by_cases eA : A = 0
          · subst eA
            by_cases e : x - y = 0
            · have q' : (x - y != 0) = false := by simp [e]
              have V : Hid (lowI y x j = y) := by
                show _ = _
                rw [HF.out, if_neg (show ¬ x - y < 0 by omega), if_pos e, Int.add_zero]
              clear e
              clear HF
              go_wp2_with fail
              go_ret
              exact ⟨by rw [V.out]; rfl, rfl⟩
            · have q' : (x - y != 0) = true := by simpa using e
              have b1 : y + 1 ≤ 2147483647 := by omega
              have V : Hid (lowI y x j = y + 1) := by
                show _ = _
                rw [HF.out, if_neg (show ¬ x - y < 0 by omega), if_neg e, if_pos rfl]
              clear e
              clear HF
              go_wp2_with fail
              go_ret
              exact ⟨by rw [V.out]; rfl, rfl⟩
          · have qa : (A == 0) = false := by simpa using eA
            have b1 : y + A ≤ 2147483647 := by omega
            have e : ¬ x - y = 0 := by omega
            have V : Hid (lowI y x j = y + A) := by
              show _ = _
              rw [HF.out, if_neg (show ¬ x - y < 0 by omega), if_neg e, if_neg eA]
            clear e eA
            clear HF
            go_wp2_with fail
            go_ret
            exact ⟨by rw [V.out]; rfl, rfl⟩
    · have d0 : x - y < 0 := of_decide_eq_true hneg.symm
      obtain rfl : S = -(x - y) := by omega
      clear hneg hd
      go_enter Try.func35, Try.ntmps35
      go_wp2_with fail
      go_loopg [8, 20] (n + 1) (fun g s t wr => ∃ j : Nat, s = .int .i64 ((-(x - y)) / 2 ^ j) ∧ t = .int .i64 j ∧ n - j < g ∧ j ≤ n ∧ wr = w)
      case atStart => exact ⟨0, by simp, rfl, by omega, by omega, rfl⟩
      case round =>
        obtain ⟨j, rfl, rfl, hg, hj, rfl⟩ := hrel
        obtain ⟨q1, q2⟩ := div_le S0 j
        by_cases hlt : j < n
        · have z1 : (j : Int) < (n : Int) := by omega
          have hs := div_step (-(x - y)) j
          have HS : Hid ((-(x - y)) / 2 ^ j / 2 = (-(x - y)) / 2 ^ (j + 1)) := hs
          clear hs
          generalize (-(x - y)) / 2 ^ j = A at q1 q2 HS ⊢
          go_wp2_with fail
          go_roundg (n - (j + 1) + 1)
          case measure => omega
          case rel => exact ⟨j + 1, by rw [HS.out], by go_num, by omega, by omega, rfl⟩
        · have z1 : ¬ (j : Int) < (n : Int) := by omega
          obtain rfl : j = n := by omega
          have HF : Hid (lowI y x j = y + (if x - y < 0 then -(if (-(x - y)) / 2 ^ j = 0 then 1 else (-(x - y)) / 2 ^ j) else if x - y = 0 then 0 else if (-(x - y)) / 2 ^ j = 0 then 1 else (-(x - y)) / 2 ^ j)) := FIN.out _ rfl
          clear FIN
          generalize (-(x - y)) / 2 ^ j = A at q1 q2 HF ⊢
          have q' : (x - y != 0) = true := by simp; omega
          by_cases eA : A = 0
          · subst eA
            have b1 : -2147483648 ≤ y + -1 := by omega
            have V : Hid (lowI y x j = y + -1) := by
              show _ = _
              rw [HF.out, if_pos d0, if_pos rfl]
            clear HF
            go_wp2_with fail
            go_ret
            exact ⟨by rw [V.out]; rfl, rfl⟩
          · have qa : (A == 0) = false := by simpa using eA
            have b1 : -2147483648 ≤ y + -A := by omega
            have V : Hid (lowI y x j = y + -A) := by
              show _ = _
              rw [HF.out, if_pos d0, if_neg eA]
            clear eA
            clear HF
            go_wp2_with fail
            go_ret
            exact ⟨by rw [V.out]; rfl, rfl⟩
  exact main _ rfl

theorem rlow_any (y x : Int) (n : Nat) (y1 : -2147483648 ≤ y) (y2 : y ≤ 2147483647) (x1 : -2147483648 ≤ x) (x2 : x ≤ 2147483647) (hn : n ≤ 30) (w : World) :
    Calls Try.prog 35 #[.int .i32 y, .int .i32 x, .int .i64 n] w fun e w' => e = .returned (.int .i32 (lowI y x n)) ∧ w' = w := by
  rcases Int.lt_or_le (x - y) 0 with h | h
  · exact rlow_core y x (-(x - y)) n y1 y2 x1 x2 hn (Or.inr ⟨h, rfl⟩) w
  · exact rlow_core y x (x - y) n y1 y2 x1 x2 hn (Or.inl ⟨h, rfl⟩) w

set_option maxHeartbeats 400000 in
theorem rabs_any (m : Int) (m1 : -2147483648 ≤ m) (m2 : m ≤ 2147483647) (w : World) :
    Calls Try.prog 53 #[.int .i32 m] w fun e w' => e = .returned (.int .i32 (wide m)) ∧ w' = w := by
  rcases Int.lt_trichotomy m 0 with h | h | h
  · have e : wide m = s32 (-m) := by unfold wide absI; rw [if_pos h]
    have h2 : m < -m := by omega
    rw [e]
    go_enter Try.func53, Try.ntmps53
    go_wp2_with (go_at_call 34; refine (rsat_any _ _).mono ?_; rintro e w' ⟨rfl, rfl⟩)
    go_ret
    exact ⟨rfl, rfl⟩
  · subst h
    go_enter Try.func53, Try.ntmps53
    go_wp2_with (go_at_call 34; refine (rsat_any _ _).mono ?_; rintro e w' ⟨rfl, rfl⟩)
    go_ret
    exact ⟨rfl, rfl⟩
  · have e : wide m = s32 m := by unfold wide absI; rw [if_neg (by omega)]
    have h2 : -m < m := by omega
    rw [e]
    go_enter Try.func53, Try.ntmps53
    go_wp2_with (go_at_call 34; refine (rsat_any _ _).mono ?_; rintro e w' ⟨rfl, rfl⟩)
    go_ret
    exact ⟨rfl, rfl⟩

set_option maxHeartbeats 400000 in
theorem rrate_any (y x m : Int) (y1 : -2147483648 ≤ y) (y2 : y ≤ 2147483647) (x1 : -2147483648 ≤ x) (x2 : x ≤ 2147483647) (m1 : -2147483648 ≤ m) (m2 : m ≤ 2147483647) (w : World) :
    Calls Try.prog 32 #[.int .i32 y, .int .i32 x, .int .i32 m] w fun e w' => e = .returned (.int .i32 (rateI y x m)) ∧ w' = w := by
  have a := wide_in m1 m2
  have c := fun w => rabs_any m m1 m2 w
  have b := s32_in (y - wide m)
  have d := s32_in (y + wide m)
  have f := bnd_in (a := x) (b := s32 (y - wide m)) (c := s32 (y + wide m)) (by omega)
  unfold rateI
  obtain ⟨a1, a2, _⟩ := a
  obtain ⟨b1, b2, _⟩ := b
  obtain ⟨d1, d2, _⟩ := d
  obtain ⟨f1, f2⟩ := f
  generalize wide m = u at *
  have c1 := fun w => rsat_any (y - u) w
  have c2 := fun w => rsat_any (y + u) w
  generalize s32 (y - u) = L at *
  generalize s32 (y + u) = H at *
  have c3 := fun w => rbound_any x L H w
  have f3 : -2147483648 ≤ bnd x L H := by omega
  have f4 : bnd x L H ≤ 2147483647 := by omega
  generalize bnd x L H = B at *
  clear f1 f2
  go_enter Try.func32, Try.ntmps32
  go_wp2_with fail
  refine (c _).mono ?_
  rintro e w' ⟨rfl, rfl⟩
  go_wp2_with fail
  refine (c1 _).mono ?_
  rintro e w' ⟨rfl, rfl⟩
  go_wp2_with fail
  refine (c2 _).mono ?_
  rintro e w' ⟨rfl, rfl⟩
  go_wp2_with fail
  refine (c3 _).mono ?_
  rintro e w' ⟨rfl, rfl⟩
  go_wp2_with fail
  go_ret
  exact ⟨rfl, rfl⟩

theorem trip_or (on : Bool) (x a b : Int) : tripB on x a b = (decide ((if a < b then b else a) < x) || (on && decide ((if a < b then a else b) ≤ x))) := by
  unfold tripB
  cases on
  · simp
  · by_cases h : a < b
    · simp [h]; omega
    · simp [h]; omega

end Go.Proofs.Ytihcioghbidblaa
