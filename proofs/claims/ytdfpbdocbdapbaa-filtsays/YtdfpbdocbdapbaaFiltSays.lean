/-
  Whatever is handed in, the law FiltSays returns true: each call of package filt answers what the document says. No condition.
-/
import Derived.Test.YtdfpbdocbdapbaaRFilt
import Derived.Test.YtdfpbdocbdapbaaRMid
import Derived.Test.YtdfpbdocbdapbaaWinAny
import Derived.Test.YtdfpbdocbdapbaaEqual
import Derived.ProofKit
import Derived.Deep.DeepCutAuto
namespace Go.Proofs.Ytdfpbdocbdapbaa.filtSays
open Go.ChangeShapes Go.WideShapes Go.ChangeAt Go.RowKit
set_option linter.unusedVariables false

theorem own : ownKnob Try.prog.godebug = none := by kernel_rfl
theorem laidOut : laidOutB Try.prog = true := by kernel_rfl


/-- the window, told as one row -/
def winF (l : Nat → Int) (ln s : Nat) (x : Int) : Nat → Int := fun t => if t < s then l (ln - s + t) else x
def allF (l : Nat → Int) (ln : Nat) (x : Int) : Nat → Int := fun t => if t < ln then l t else x
theorem win_vals (l : Nat → Int) (ln s : Nat) (x : Int) : vals l (ln - s) s ++ [.int .i32 x] = vals (winF l ln s x) 0 (s + 1) := by
  apply List.ext_getElem?
  intro j
  rcases Nat.lt_or_ge j (s + 1) with q | q
  · rw [vals_get q, Nat.zero_add]
    unfold winF
    rcases Nat.lt_or_ge j s with q2 | q2
    · rw [List.getElem?_append_left (by rw [vals_length]; exact q2), vals_get q2, if_pos q2]
    · have e : j = s := by omega
      subst e
      rw [List.getElem?_append_right (by rw [vals_length]; exact q2), vals_length, if_neg (by omega)]
      simp
  · rw [List.getElem?_eq_none (by rw [List.length_append, vals_length]; simp; omega), List.getElem?_eq_none (by rw [vals_length]; exact q)]
theorem all_vals (l : Nat → Int) (ln : Nat) (x : Int) : vals l 0 ln ++ [.int .i32 x] = vals (allF l ln x) 0 (ln + 1) := by
  have := win_vals l ln ln x
  rw [Nat.sub_self] at this
  rw [this]
  congr 1
  funext t
  unfold winF allF
  rw [Nat.sub_self, Nat.zero_add]

/-- what the two answers of the middle one are, in whatever world behind w -/
structure Mids (w : World) (la : Option Addr) (ln lc : Nat) (m e : Int) : Prop where
  a : ∀ W, Below w.heap.size w W → Calls Try.prog 11 #[.slice la ln lc] W fun r W' => r = .returned (.tuple #[.int .i32 m, .int .i64 e]) ∧ Below W.heap.size W W'
  b : ∀ W, Below w.heap.size w W → Calls Try.prog 12 #[.slice la ln lc] W fun r W' => r = .returned (.tuple #[.int .i32 m, .int .i64 e]) ∧ W' = W
theorem mids {w : World} {la : Option Addr} {ln lc : Nat} {l : Nat → Int} (h : RowK .i32 w la ln lc l) : ∃ m e, Mids w la ln lc m e := by
  rcases Nat.eq_zero_or_pos ln with q | q
  · subst q
    exact ⟨0, 7, fun W _ => (middle_none la lc W).mono fun r W' ⟨h1, h2⟩ => ⟨h1, by rw [h2]; exact Below.refl _ _⟩, fun W _ => rmiddle_none la lc W⟩
  · rcases Nat.lt_or_ge 64 ln with q2 | q2
    · exact ⟨0, 2, fun W _ => (middle_large la ln lc q2 W).mono fun r W' ⟨h1, h2⟩ => ⟨h1, by rw [h2]; exact Below.refl _ _⟩, fun W _ => rmiddle_large la ln lc q2 W⟩
    · obtain ⟨_, _, _, h4⟩ := h
      obtain ⟨b, off, rfl, hb, hc⟩ := h4 q
      have row : ∀ W, Below w.heap.size w W → ∀ t, t < ln → W.cell? ⟨b, off + t, none⟩ = some (.int .i32 (l t)) := fun W hW t ht => (hW.cell (p := ⟨b, off + t, none⟩) hb).trans (hc t ht)
      obtain ⟨m, hm⟩ : ∃ m, IsMid l ln m := mid_there l ln q
      refine ⟨m, 0, fun W hW => ?_, fun W hW => rmiddle_any b off ln lc l m W q q2 hm (row W hW)⟩
      refine (middle_any b off ln lc l W q q2 (Nat.lt_of_lt_of_le hb hW.size) (row W hW)).mono ?_
      rintro r W' ⟨m', rfl, hm', hb'⟩
      rw [mid_one hm' hm]
      exact ⟨rfl, hb'⟩

set_option maxHeartbeats 8000000 in
set_option maxRecDepth 100000 in
theorem arg_bad (y x most n : Int) (on : Bool) (la : Option Addr) (ln lc : Nat) (w : World) (y1 : -2147483648 ≤ y) (y2 : y ≤ 2147483647) (x1 : -2147483648 ≤ x) (x2 : x ≤ 2147483647) (m1 : -2147483648 ≤ most) (m2 : most ≤ 2147483647) (hn : n < 0 ∨ 30 < n) (m e : Int) (hm : Mids w la ln lc m e) (hw : n < 1 ∨ 64 < n) :
    Calls Try.prog 3 #[.int .i32 y, .int .i32 x, .int .i32 most, .int .i64 n, .bool on, .slice la ln lc] w fun e w' => e = .returned (.bool true) ∧ Below w.heap.size w w' := by
  have hW := fun w => window_arg la ln lc x n w hw
  have c1 := fun w => rate_any y x most y1 y2 m1 m2 w
  have c2 := fun w => rrate_any y x most y1 y2 x1 x2 m1 m2 w
  have c3 := fun w => dead_any x most x1 x2 m1 m2 w
  have c4 := fun w => rdead_any x most x1 x2 m1 m2 w
  have c5 := fun w => trip_any on x y most w
  have c6 := fun w => rtrip_any on x y most w
  generalize rateI y x most = V1 at c1 c2
  generalize deadI x most = V2 at c3 c4
  generalize tripB on x y most = V3 at c5 c6
  rcases hn with hn | hn
  · have cl := fun w => low_bad y x n (Or.inl hn) w
    go_enter Try.func3, Try.ntmps3
    go_wp2_with fail
    refine (cl _).mono ?_
    rintro r W ⟨rfl, hWw⟩
    rw [hWw]
    clear hWw W
    clear cl
    go_wp2_with fail
    refine (hm.a _ (Below.refl _ _)).mono ?_
    rintro r w1 ⟨rfl, hb⟩
    have B1 : Hid (Below w.heap.size w w1) := hb
    clear hb
    go_wp2_with fail
    refine (hm.b _ B1.out).mono ?_
    rintro r w2 ⟨rfl, rfl⟩
    rcases hw with hw | hw
    · go_wp2_with fail
      refine (hW _).mono ?_
      rintro r w3 ⟨rfl, rfl⟩
      clear hW hm
      go_wp2_with fail
      refine (c1 _).mono ?_
      rintro r WA ⟨rfl, rfl⟩
      go_wp2_with fail
      refine (c2 _).mono ?_
      rintro r WA ⟨rfl, rfl⟩
      go_wp2_with fail
      refine (c3 _).mono ?_
      rintro r WA ⟨rfl, rfl⟩
      go_wp2_with fail
      refine (c4 _).mono ?_
      rintro r WA ⟨rfl, rfl⟩
      go_wp2_with fail
      refine (c5 _).mono ?_
      rintro r WA ⟨rfl, rfl⟩
      go_wp2_with fail
      refine (c6 _).mono ?_
      rintro r WA ⟨rfl, rfl⟩
      go_wp2_with fail
      go_ret
      exact ⟨by simp, B1.out⟩
    · have hw2 : ¬ n < 1 := by omega
      go_wp2_with fail
      refine (hW _).mono ?_
      rintro r w3 ⟨rfl, rfl⟩
      clear hW hm
      go_wp2_with fail
      refine (c1 _).mono ?_
      rintro r WA ⟨rfl, rfl⟩
      go_wp2_with fail
      refine (c2 _).mono ?_
      rintro r WA ⟨rfl, rfl⟩
      go_wp2_with fail
      refine (c3 _).mono ?_
      rintro r WA ⟨rfl, rfl⟩
      go_wp2_with fail
      refine (c4 _).mono ?_
      rintro r WA ⟨rfl, rfl⟩
      go_wp2_with fail
      refine (c5 _).mono ?_
      rintro r WA ⟨rfl, rfl⟩
      go_wp2_with fail
      refine (c6 _).mono ?_
      rintro r WA ⟨rfl, rfl⟩
      go_wp2_with fail
      go_ret
      exact ⟨by simp, B1.out⟩
  · have cl := fun w => low_bad y x n (Or.inr hn) w
    have hn2 : ¬ n < 0 := by omega
    go_enter Try.func3, Try.ntmps3
    go_wp2_with fail
    refine (cl _).mono ?_
    rintro r W ⟨rfl, hWw⟩
    rw [hWw]
    clear hWw W
    clear cl
    go_wp2_with fail
    refine (hm.a _ (Below.refl _ _)).mono ?_
    rintro r w1 ⟨rfl, hb⟩
    have B1 : Hid (Below w.heap.size w w1) := hb
    clear hb
    go_wp2_with fail
    refine (hm.b _ B1.out).mono ?_
    rintro r w2 ⟨rfl, rfl⟩
    rcases hw with hw | hw
    · go_wp2_with fail
      refine (hW _).mono ?_
      rintro r w3 ⟨rfl, rfl⟩
      clear hW hm
      go_wp2_with fail
      refine (c1 _).mono ?_
      rintro r WA ⟨rfl, rfl⟩
      go_wp2_with fail
      refine (c2 _).mono ?_
      rintro r WA ⟨rfl, rfl⟩
      go_wp2_with fail
      refine (c3 _).mono ?_
      rintro r WA ⟨rfl, rfl⟩
      go_wp2_with fail
      refine (c4 _).mono ?_
      rintro r WA ⟨rfl, rfl⟩
      go_wp2_with fail
      refine (c5 _).mono ?_
      rintro r WA ⟨rfl, rfl⟩
      go_wp2_with fail
      refine (c6 _).mono ?_
      rintro r WA ⟨rfl, rfl⟩
      go_wp2_with fail
      go_ret
      exact ⟨by simp, B1.out⟩
    · have hw2 : ¬ n < 1 := by omega
      go_wp2_with fail
      refine (hW _).mono ?_
      rintro r w3 ⟨rfl, rfl⟩
      clear hW hm
      go_wp2_with fail
      refine (c1 _).mono ?_
      rintro r WA ⟨rfl, rfl⟩
      go_wp2_with fail
      refine (c2 _).mono ?_
      rintro r WA ⟨rfl, rfl⟩
      go_wp2_with fail
      refine (c3 _).mono ?_
      rintro r WA ⟨rfl, rfl⟩
      go_wp2_with fail
      refine (c4 _).mono ?_
      rintro r WA ⟨rfl, rfl⟩
      go_wp2_with fail
      refine (c5 _).mono ?_
      rintro r WA ⟨rfl, rfl⟩
      go_wp2_with fail
      refine (c6 _).mono ?_
      rintro r WA ⟨rfl, rfl⟩
      go_wp2_with fail
      go_ret
      exact ⟨by simp, B1.out⟩

set_option maxHeartbeats 8000000 in
set_option maxRecDepth 100000 in
theorem arg_good (y x most : Int) (k : Nat) (on : Bool) (la : Option Addr) (ln lc : Nat) (w : World) (y1 : -2147483648 ≤ y) (y2 : y ≤ 2147483647) (x1 : -2147483648 ≤ x) (x2 : x ≤ 2147483647) (m1 : -2147483648 ≤ most) (m2 : most ≤ 2147483647) (hk : k ≤ 30) (m e : Int) (hm : Mids w la ln lc m e) (hw : (k : Int) < 1 ∨ 64 < (k : Int)) :
    Calls Try.prog 3 #[.int .i32 y, .int .i32 x, .int .i32 most, .int .i64 k, .bool on, .slice la ln lc] w fun e w' => e = .returned (.bool true) ∧ Below w.heap.size w w' := by
  have hW := fun w => window_arg la ln lc x (k : Int) w hw
  have c1 := fun w => rate_any y x most y1 y2 m1 m2 w
  have c2 := fun w => rrate_any y x most y1 y2 x1 x2 m1 m2 w
  have c3 := fun w => dead_any x most x1 x2 m1 m2 w
  have c4 := fun w => rdead_any x most x1 x2 m1 m2 w
  have c5 := fun w => trip_any on x y most w
  have c6 := fun w => rtrip_any on x y most w
  generalize rateI y x most = V1 at c1 c2
  generalize deadI x most = V2 at c3 c4
  generalize tripB on x y most = V3 at c5 c6
  have cl := fun w => low_any y x k y1 y2 x1 x2 hk w
  have cl2 := fun w => rlow_any y x k y1 y2 x1 x2 hk w
  generalize lowI y x k = V0 at cl cl2
  have k0 : ¬ (k : Int) < 0 := by omega
  have k1 : ¬ (30 : Int) < (k : Int) := by omega
  go_enter Try.func3, Try.ntmps3
  go_wp2_with fail
  refine (cl _).mono ?_
  rintro r W ⟨rfl, hWw⟩
  rw [hWw]
  clear hWw W
  go_wp2_with fail
  refine (cl2 _).mono ?_
  rintro r W ⟨rfl, hWw⟩
  rw [hWw]
  clear hWw W
  clear cl cl2
  go_wp2_with fail
  refine (hm.a _ (Below.refl _ _)).mono ?_
  rintro r w1 ⟨rfl, hb⟩
  have B1 : Hid (Below w.heap.size w w1) := hb
  clear hb
  go_wp2_with fail
  refine (hm.b _ B1.out).mono ?_
  rintro r w2 ⟨rfl, rfl⟩
  rcases hw with hw | hw
  · go_wp2_with fail
    refine (hW _).mono ?_
    rintro r w3 ⟨rfl, rfl⟩
    clear hW hm
    go_wp2_with fail
    refine (c1 _).mono ?_
    rintro r WA ⟨rfl, rfl⟩
    go_wp2_with fail
    refine (c2 _).mono ?_
    rintro r WA ⟨rfl, rfl⟩
    go_wp2_with fail
    refine (c3 _).mono ?_
    rintro r WA ⟨rfl, rfl⟩
    go_wp2_with fail
    refine (c4 _).mono ?_
    rintro r WA ⟨rfl, rfl⟩
    go_wp2_with fail
    refine (c5 _).mono ?_
    rintro r WA ⟨rfl, rfl⟩
    go_wp2_with fail
    refine (c6 _).mono ?_
    rintro r WA ⟨rfl, rfl⟩
    go_wp2_with fail
    go_ret
    exact ⟨by simp, B1.out⟩
  · have hw2 : ¬ (k : Int) < 1 := by omega
    go_wp2_with fail
    refine (hW _).mono ?_
    rintro r w3 ⟨rfl, rfl⟩
    clear hW hm
    go_wp2_with fail
    refine (c1 _).mono ?_
    rintro r WA ⟨rfl, rfl⟩
    go_wp2_with fail
    refine (c2 _).mono ?_
    rintro r WA ⟨rfl, rfl⟩
    go_wp2_with fail
    refine (c3 _).mono ?_
    rintro r WA ⟨rfl, rfl⟩
    go_wp2_with fail
    refine (c4 _).mono ?_
    rintro r WA ⟨rfl, rfl⟩
    go_wp2_with fail
    refine (c5 _).mono ?_
    rintro r WA ⟨rfl, rfl⟩
    go_wp2_with fail
    refine (c6 _).mono ?_
    rintro r WA ⟨rfl, rfl⟩
    go_wp2_with fail
    go_ret
    exact ⟨by simp, B1.out⟩

set_option maxHeartbeats 8000000 in
set_option maxRecDepth 100000 in
theorem large_bad (y x most n : Int) (on : Bool) (la : Option Addr) (ln lc : Nat) (w : World) (y1 : -2147483648 ≤ y) (y2 : y ≤ 2147483647) (x1 : -2147483648 ≤ x) (x2 : x ≤ 2147483647) (m1 : -2147483648 ≤ most) (m2 : most ≤ 2147483647) (hn : n < 0 ∨ 30 < n) (m e : Int) (hm : Mids w la ln lc m e) (n1 : 1 ≤ n) (n2 : n ≤ 64) (h64 : 64 < ln) :
    Calls Try.prog 3 #[.int .i32 y, .int .i32 x, .int .i32 most, .int .i64 n, .bool on, .slice la ln lc] w fun e w' => e = .returned (.bool true) ∧ Below w.heap.size w w' := by
  have hW := fun w => window_large la ln lc x n w n1 n2 h64
  have nn1 : ¬ n < 1 := by omega
  have nn2 : ¬ 64 < n := by omega
  have hl4 : (64 : Int) < (ln : Int) := by omega
  have c1 := fun w => rate_any y x most y1 y2 m1 m2 w
  have c2 := fun w => rrate_any y x most y1 y2 x1 x2 m1 m2 w
  have c3 := fun w => dead_any x most x1 x2 m1 m2 w
  have c4 := fun w => rdead_any x most x1 x2 m1 m2 w
  have c5 := fun w => trip_any on x y most w
  have c6 := fun w => rtrip_any on x y most w
  generalize rateI y x most = V1 at c1 c2
  generalize deadI x most = V2 at c3 c4
  generalize tripB on x y most = V3 at c5 c6
  rcases hn with hn | hn
  · exact absurd hn (by omega)
  · have cl := fun w => low_bad y x n (Or.inr hn) w
    have hn2 : ¬ n < 0 := by omega
    go_enter Try.func3, Try.ntmps3
    go_wp2_with fail
    refine (cl _).mono ?_
    rintro r W ⟨rfl, hWw⟩
    rw [hWw]
    clear hWw W
    clear cl
    go_wp2_with fail
    refine (hm.a _ (Below.refl _ _)).mono ?_
    rintro r w1 ⟨rfl, hb⟩
    have B1 : Hid (Below w.heap.size w w1) := hb
    clear hb
    go_wp2_with fail
    refine (hm.b _ B1.out).mono ?_
    rintro r w2 ⟨rfl, rfl⟩
    go_wp2_with fail
    refine (hW _).mono ?_
    rintro r w3 ⟨rfl, rfl⟩
    clear hW hm
    go_wp2_with fail
    refine (c1 _).mono ?_
    rintro r WA ⟨rfl, rfl⟩
    go_wp2_with fail
    refine (c2 _).mono ?_
    rintro r WA ⟨rfl, rfl⟩
    go_wp2_with fail
    refine (c3 _).mono ?_
    rintro r WA ⟨rfl, rfl⟩
    go_wp2_with fail
    refine (c4 _).mono ?_
    rintro r WA ⟨rfl, rfl⟩
    go_wp2_with fail
    refine (c5 _).mono ?_
    rintro r WA ⟨rfl, rfl⟩
    go_wp2_with fail
    refine (c6 _).mono ?_
    rintro r WA ⟨rfl, rfl⟩
    go_wp2_with fail
    go_ret
    exact ⟨by simp, B1.out⟩

set_option maxHeartbeats 8000000 in
set_option maxRecDepth 100000 in
theorem large_good (y x most : Int) (k : Nat) (on : Bool) (la : Option Addr) (ln lc : Nat) (w : World) (y1 : -2147483648 ≤ y) (y2 : y ≤ 2147483647) (x1 : -2147483648 ≤ x) (x2 : x ≤ 2147483647) (m1 : -2147483648 ≤ most) (m2 : most ≤ 2147483647) (hk : k ≤ 30) (m e : Int) (hm : Mids w la ln lc m e) (n1 : 1 ≤ (k : Int)) (n2 : (k : Int) ≤ 64) (h64 : 64 < ln) :
    Calls Try.prog 3 #[.int .i32 y, .int .i32 x, .int .i32 most, .int .i64 k, .bool on, .slice la ln lc] w fun e w' => e = .returned (.bool true) ∧ Below w.heap.size w w' := by
  have hW := fun w => window_large la ln lc x (k : Int) w n1 n2 h64
  have nn1 : ¬ (k : Int) < 1 := by omega
  have nn2 : ¬ 64 < (k : Int) := by omega
  have hl4 : (64 : Int) < (ln : Int) := by omega
  have c1 := fun w => rate_any y x most y1 y2 m1 m2 w
  have c2 := fun w => rrate_any y x most y1 y2 x1 x2 m1 m2 w
  have c3 := fun w => dead_any x most x1 x2 m1 m2 w
  have c4 := fun w => rdead_any x most x1 x2 m1 m2 w
  have c5 := fun w => trip_any on x y most w
  have c6 := fun w => rtrip_any on x y most w
  generalize rateI y x most = V1 at c1 c2
  generalize deadI x most = V2 at c3 c4
  generalize tripB on x y most = V3 at c5 c6
  have cl := fun w => low_any y x k y1 y2 x1 x2 hk w
  have cl2 := fun w => rlow_any y x k y1 y2 x1 x2 hk w
  generalize lowI y x k = V0 at cl cl2
  have k0 : ¬ (k : Int) < 0 := by omega
  have k1 : ¬ (30 : Int) < (k : Int) := by omega
  go_enter Try.func3, Try.ntmps3
  go_wp2_with fail
  refine (cl _).mono ?_
  rintro r W ⟨rfl, hWw⟩
  rw [hWw]
  clear hWw W
  go_wp2_with fail
  refine (cl2 _).mono ?_
  rintro r W ⟨rfl, hWw⟩
  rw [hWw]
  clear hWw W
  clear cl cl2
  go_wp2_with fail
  refine (hm.a _ (Below.refl _ _)).mono ?_
  rintro r w1 ⟨rfl, hb⟩
  have B1 : Hid (Below w.heap.size w w1) := hb
  clear hb
  go_wp2_with fail
  refine (hm.b _ B1.out).mono ?_
  rintro r w2 ⟨rfl, rfl⟩
  go_wp2_with fail
  refine (hW _).mono ?_
  rintro r w3 ⟨rfl, rfl⟩
  clear hW hm
  go_wp2_with fail
  refine (c1 _).mono ?_
  rintro r WA ⟨rfl, rfl⟩
  go_wp2_with fail
  refine (c2 _).mono ?_
  rintro r WA ⟨rfl, rfl⟩
  go_wp2_with fail
  refine (c3 _).mono ?_
  rintro r WA ⟨rfl, rfl⟩
  go_wp2_with fail
  refine (c4 _).mono ?_
  rintro r WA ⟨rfl, rfl⟩
  go_wp2_with fail
  refine (c5 _).mono ?_
  rintro r WA ⟨rfl, rfl⟩
  go_wp2_with fail
  refine (c6 _).mono ?_
  rintro r WA ⟨rfl, rfl⟩
  go_wp2_with fail
  go_ret
  exact ⟨by simp, B1.out⟩

set_option maxHeartbeats 8000000 in
set_option maxRecDepth 100000 in
theorem good_bad (y x most n : Int) (on : Bool) (la : Option Addr) (ln lc : Nat) (w : World) (y1 : -2147483648 ≤ y) (y2 : y ≤ 2147483647) (x1 : -2147483648 ≤ x) (x2 : x ≤ 2147483647) (m1 : -2147483648 ≤ most) (m2 : most ≤ 2147483647) (hn : n < 0 ∨ 30 < n) (l : Nat → Int) (m e : Int) (hm : Mids w la ln lc m e) (n1 : 1 ≤ n) (n2 : n ≤ 64) (h64 : ln ≤ 64) (hr : RowK .i32 w la ln lc l) :
    Calls Try.prog 3 #[.int .i32 y, .int .i32 x, .int .i32 most, .int .i64 n, .bool on, .slice la ln lc] w fun e w' => e = .returned (.bool true) ∧ Below w.heap.size w w' := by
  have nn1 : ¬ n < 1 := by omega
  have nn2 : ¬ 64 < n := by omega
  have hl4 : ¬ (64 : Int) < (ln : Int) := by omega
  have HR : Hid (RowK .i32 w la ln lc l) := hr
  clear hr
  obtain ⟨i, i1, i2, i3, i4⟩ := info32
  obtain ⟨s, hs⟩ : ∃ s, s = stays n ln := ⟨_, rfl⟩
  have s1 : s ≤ ln ∧ ((s : Int) + 1 ≤ n) ∧ (n ≤ (ln : Int) + 1 → (s : Int) + 1 = n) ∧ ((ln : Int) + 1 ≤ n → s = ln) := by
    unfold stays at hs
    split at hs <;> omega
  obtain ⟨s2, s3, s4, s5⟩ := s1
  have HS : Hid (s = stays n ln) := hs
  clear hs
  have c1 := fun w => rate_any y x most y1 y2 m1 m2 w
  have c2 := fun w => rrate_any y x most y1 y2 x1 x2 m1 m2 w
  have c3 := fun w => dead_any x most x1 x2 m1 m2 w
  have c4 := fun w => rdead_any x most x1 x2 m1 m2 w
  have c5 := fun w => trip_any on x y most w
  have c6 := fun w => rtrip_any on x y most w
  generalize rateI y x most = V1 at c1 c2
  generalize deadI x most = V2 at c3 c4
  generalize tripB on x y most = V3 at c5 c6
  rcases hn with hn | hn
  · exact absurd hn (by omega)
  · have cl := fun w => low_bad y x n (Or.inr hn) w
    have hn2 : ¬ n < 0 := by omega
    go_enter Try.func3, Try.ntmps3
    go_wp2_with fail
    refine (cl _).mono ?_
    rintro r W ⟨rfl, hWw⟩
    rw [hWw]
    clear hWw W
    clear cl
    go_wp2_with fail
    refine (hm.a _ (Below.refl _ _)).mono ?_
    rintro r w1 ⟨rfl, hb⟩
    have B1 : Hid (Below w.heap.size w w1) := hb
    clear hb
    go_wp2_with fail
    refine (hm.b _ B1.out).mono ?_
    rintro r w2 ⟨rfl, rfl⟩
    go_wp2_with fail
    refine (window_any la ln lc l x n _ n1 n2 h64 (HR.out.below B1.out)).mono ?_
    rintro r w3 ⟨v, rfl, ho, hb⟩
    rw [← HS.out, win_vals] at ho
    obtain ⟨g, cap, rfl, hg1, hg2⟩ := ho.form (by omega)
    have B3 : Hid (Below w.heap.size w w3) := B1.out.trans (hb.mono B1.out.size)
    have R3 : Hid (∀ t, t < s + 1 → w3.cell? ⟨g, 0 + t, none⟩ = some (.int .i32 (winF l ln s x t))) := fun t ht => by
      have := ho.cellAt t (by omega)
      rw [vals_get ht, Nat.zero_add] at this
      rw [Nat.zero_add]
      exact this
    clear ho hb hm
    go_wp2_with fail
    refine (clone_any la ln lc l _ (by omega) (HR.out.below B3.out)).mono ?_
    rintro r w4 ⟨v4, rfl, ho, hb⟩
    have B4 : Hid (Below w.heap.size w w4) := B3.out.trans (hb.mono B3.out.size)
    have R4 : Hid (∀ t, t < s + 1 → w4.cell? ⟨g, 0 + t, none⟩ = some (.int .i32 (winF l ln s x t))) := fun t ht => (hb.cell (p := ⟨g, 0 + t, none⟩) hg2).trans (R3.out t ht)
    have O4 : Hid (w4.ownsRow w3.heap.size 21 1 v4 ln (vals l 0 ln)) := ho
    have g4 : w3.heap.size ≤ w4.heap.size := hb.size
    clear ho hb R3
    go_wp2_with (at_builtin; refine wpList_append_own _ rfl _ _ 22 rfl w3.heap.size 21 i (.int .i32 0) 1 4 Try.underlying22 i1 i2 i3 i4 rfl (by omega) _ _ _ rfl (O4.out.alloc _) ⟨w4.heap.size, 0, none⟩ 1 _ [.int .i32 x] rfl ?qc1 ?qc2 ?qc3 ?qc4 ?qc5 ?qc6 ?_)
    try case qc1 => rfl
    try
      case qc2 =>
        intro j u hj
        match j, hj with
        | 0, hj =>
          simp at hj
          subst hj
          rw [Addr.add_lit]
          go_simp
    try case qc3 => first | (intro u hu; simp at hu; subst hu; rfl) | (simp; done) | rfl
    try case qc4 => first | (unfold maxLen; omega) | (simp [maxLen]; done)
    try case qc5 => omega
    try case qc6 => first | (simp; omega) | (simp; done) | omega
    intro v5 w5 ho hgr _
    rw [all_vals] at ho
    obtain ⟨f, cap5, rfl, hf1, hf2⟩ := ho.form (by omega)
    obtain ⟨q1, q2, q3, q4⟩ := owns_cap ho (by omega)
    unfold maxLen at q2
    have hb5 : Below w3.heap.size w4 w5 := ((Below.refl _ w4).alloc g4 _).grown hgr (by simp; omega) (fun k hk => (O4.out.lt k hk).1)
    have B5 : Hid (Below w.heap.size w w5) := B4.out.trans (hb5.mono B3.out.size)
    have R5 : Hid (∀ t, t < s + 1 → w5.cell? ⟨g, 0 + t, none⟩ = some (.int .i32 (winF l ln s x t))) := fun t ht => (hb5.cell (p := ⟨g, 0 + t, none⟩) hg2).trans (R4.out t ht)
    have A5 : Hid (∀ t, t < ln + 1 → w5.cell? ⟨f, t, none⟩ = some (.int .i32 (allF l ln x t))) := fun t ht => by
      have := ho.cellAt t (by omega)
      rw [vals_get ht, Nat.zero_add] at this
      exact this
    clear ho hgr hb5 O4 R4 B4 hf1 hf2
    go_wp2_with fail
    go_loopg [20] (ln + 2) (fun gk s20 wr => ∃ d : Nat, s20 = .slice (some ⟨f, d, none⟩) (ln + 1 - d) (cap5 - d) ∧ ln + 1 - d < gk ∧ d + s ≤ ln ∧ wr = w5)
    case atStart => exact ⟨0, rfl, by omega, by omega, rfl⟩
    case round =>
      obtain ⟨d, rfl, hgk, hd, rfl⟩ := hrel
      by_cases hlt : d + s < ln
      · have t1 : n < ((ln + 1 - d : Nat) : Int) := by omega
        have t2 : ¬ cap5 - d = 1 := by omega
        have t3 : (1 : Int) ≤ ((ln + 1 - d : Nat) : Int) := by omega
        obtain ⟨L1, hL1⟩ : ∃ L1 : Nat, L1 = ln + 1 - d := ⟨_, rfl⟩
        obtain ⟨C1, hC1⟩ : ∃ C1 : Nat, C1 = cap5 - d := ⟨_, rfl⟩
        rw [← hL1] at t1 t3 ⊢
        rw [← hC1] at t2 ⊢
        have HL1 : Hid (L1 = ln + 1 - d ∧ C1 = cap5 - d) := ⟨hL1, hC1⟩
        have t4 : L1 ≤ C1 := by omega
        have t5 : C1 ≤ 9223372036854775807 := by omega
        clear hL1 hC1
        go_wp2_with fail
        go_roundg (ln + 1 - d)
        case measure => omega
        case rel => exact ⟨d + 1, by rw [show L1 - 1 = ln + 1 - (d + 1) by have := HL1.out.1; omega, show C1 - 1 = cap5 - (d + 1) by have := HL1.out.2; omega], by omega, by omega, rfl⟩
      · have e1 : ln + 1 - d = s + 1 := by omega
        rw [e1]
        have t1 : ¬ n < (s : Int) + 1 := by omega
        generalize cap5 - d = C1
        have hE : eqB (winF l ln s x) (fun t => allF l ln x (d + t)) (s + 1) = true := (eqB_iff _ _ _).2 fun t ht => by
          unfold winF allF
          by_cases q : t < s
          · rw [if_pos q, if_pos (by omega), show ln - s + t = d + t by omega]
          · rw [if_neg q, if_neg (by omega)]
        have CE := equal_any g 0 f d (s + 1) cap C1 (winF l ln s x) (fun t => allF l ln x (d + t)) wr (by omega) (fun t ht => R5.out t ht) (fun t ht => A5.out (d + t) (by omega))
        rw [hE] at CE
        clear hE e1
        go_wp2_with fail
        refine CE.mono ?_
        rintro r w6 ⟨rfl, dd, hw6⟩
        have B6 : Hid (Below w.heap.size w w6) := by rw [hw6]; exact ⟨B5.out.os, B5.out.tape, B5.out.output, B5.out.size, B5.out.block⟩
        clear hw6 CE R5 A5 B5
        go_wp2_with fail
        refine (c1 _).mono ?_
        rintro r WA ⟨rfl, rfl⟩
        go_wp2_with fail
        refine (c2 _).mono ?_
        rintro r WA ⟨rfl, rfl⟩
        go_wp2_with fail
        refine (c3 _).mono ?_
        rintro r WA ⟨rfl, rfl⟩
        go_wp2_with fail
        refine (c4 _).mono ?_
        rintro r WA ⟨rfl, rfl⟩
        go_wp2_with fail
        refine (c5 _).mono ?_
        rintro r WA ⟨rfl, rfl⟩
        go_wp2_with fail
        refine (c6 _).mono ?_
        rintro r WA ⟨rfl, rfl⟩
        go_wp2_with fail
        go_ret
        exact ⟨by simp, B6.out⟩

set_option maxHeartbeats 8000000 in
set_option maxRecDepth 100000 in
theorem good_good (y x most : Int) (k : Nat) (on : Bool) (la : Option Addr) (ln lc : Nat) (w : World) (y1 : -2147483648 ≤ y) (y2 : y ≤ 2147483647) (x1 : -2147483648 ≤ x) (x2 : x ≤ 2147483647) (m1 : -2147483648 ≤ most) (m2 : most ≤ 2147483647) (hk : k ≤ 30) (l : Nat → Int) (m e : Int) (hm : Mids w la ln lc m e) (n1 : 1 ≤ (k : Int)) (n2 : (k : Int) ≤ 64) (h64 : ln ≤ 64) (hr : RowK .i32 w la ln lc l) :
    Calls Try.prog 3 #[.int .i32 y, .int .i32 x, .int .i32 most, .int .i64 k, .bool on, .slice la ln lc] w fun e w' => e = .returned (.bool true) ∧ Below w.heap.size w w' := by
  have nn1 : ¬ (k : Int) < 1 := by omega
  have nn2 : ¬ 64 < (k : Int) := by omega
  have hl4 : ¬ (64 : Int) < (ln : Int) := by omega
  have HR : Hid (RowK .i32 w la ln lc l) := hr
  clear hr
  obtain ⟨i, i1, i2, i3, i4⟩ := info32
  obtain ⟨s, hs⟩ : ∃ s, s = stays (k : Int) ln := ⟨_, rfl⟩
  have s1 : s ≤ ln ∧ ((s : Int) + 1 ≤ (k : Int)) ∧ ((k : Int) ≤ (ln : Int) + 1 → (s : Int) + 1 = (k : Int)) ∧ ((ln : Int) + 1 ≤ (k : Int) → s = ln) := by
    unfold stays at hs
    split at hs <;> omega
  obtain ⟨s2, s3, s4, s5⟩ := s1
  have HS : Hid (s = stays (k : Int) ln) := hs
  clear hs
  have c1 := fun w => rate_any y x most y1 y2 m1 m2 w
  have c2 := fun w => rrate_any y x most y1 y2 x1 x2 m1 m2 w
  have c3 := fun w => dead_any x most x1 x2 m1 m2 w
  have c4 := fun w => rdead_any x most x1 x2 m1 m2 w
  have c5 := fun w => trip_any on x y most w
  have c6 := fun w => rtrip_any on x y most w
  generalize rateI y x most = V1 at c1 c2
  generalize deadI x most = V2 at c3 c4
  generalize tripB on x y most = V3 at c5 c6
  have cl := fun w => low_any y x k y1 y2 x1 x2 hk w
  have cl2 := fun w => rlow_any y x k y1 y2 x1 x2 hk w
  generalize lowI y x k = V0 at cl cl2
  have k0 : ¬ (k : Int) < 0 := by omega
  have k1 : ¬ (30 : Int) < (k : Int) := by omega
  go_enter Try.func3, Try.ntmps3
  go_wp2_with fail
  refine (cl _).mono ?_
  rintro r W ⟨rfl, hWw⟩
  rw [hWw]
  clear hWw W
  go_wp2_with fail
  refine (cl2 _).mono ?_
  rintro r W ⟨rfl, hWw⟩
  rw [hWw]
  clear hWw W
  clear cl cl2
  go_wp2_with fail
  refine (hm.a _ (Below.refl _ _)).mono ?_
  rintro r w1 ⟨rfl, hb⟩
  have B1 : Hid (Below w.heap.size w w1) := hb
  clear hb
  go_wp2_with fail
  refine (hm.b _ B1.out).mono ?_
  rintro r w2 ⟨rfl, rfl⟩
  go_wp2_with fail
  refine (window_any la ln lc l x (k : Int) _ n1 n2 h64 (HR.out.below B1.out)).mono ?_
  rintro r w3 ⟨v, rfl, ho, hb⟩
  rw [← HS.out, win_vals] at ho
  obtain ⟨g, cap, rfl, hg1, hg2⟩ := ho.form (by omega)
  have B3 : Hid (Below w.heap.size w w3) := B1.out.trans (hb.mono B1.out.size)
  have R3 : Hid (∀ t, t < s + 1 → w3.cell? ⟨g, 0 + t, none⟩ = some (.int .i32 (winF l ln s x t))) := fun t ht => by
    have := ho.cellAt t (by omega)
    rw [vals_get ht, Nat.zero_add] at this
    rw [Nat.zero_add]
    exact this
  clear ho hb hm
  go_wp2_with fail
  refine (clone_any la ln lc l _ (by omega) (HR.out.below B3.out)).mono ?_
  rintro r w4 ⟨v4, rfl, ho, hb⟩
  have B4 : Hid (Below w.heap.size w w4) := B3.out.trans (hb.mono B3.out.size)
  have R4 : Hid (∀ t, t < s + 1 → w4.cell? ⟨g, 0 + t, none⟩ = some (.int .i32 (winF l ln s x t))) := fun t ht => (hb.cell (p := ⟨g, 0 + t, none⟩) hg2).trans (R3.out t ht)
  have O4 : Hid (w4.ownsRow w3.heap.size 21 1 v4 ln (vals l 0 ln)) := ho
  have g4 : w3.heap.size ≤ w4.heap.size := hb.size
  clear ho hb R3
  go_wp2_with (at_builtin; refine wpList_append_own _ rfl _ _ 22 rfl w3.heap.size 21 i (.int .i32 0) 1 4 Try.underlying22 i1 i2 i3 i4 rfl (by omega) _ _ _ rfl (O4.out.alloc _) ⟨w4.heap.size, 0, none⟩ 1 _ [.int .i32 x] rfl ?qc1 ?qc2 ?qc3 ?qc4 ?qc5 ?qc6 ?_)
  try case qc1 => rfl
  try
    case qc2 =>
      intro j u hj
      match j, hj with
      | 0, hj =>
        simp at hj
        subst hj
        rw [Addr.add_lit]
        go_simp
  try case qc3 => first | (intro u hu; simp at hu; subst hu; rfl) | (simp; done) | rfl
  try case qc4 => first | (unfold maxLen; omega) | (simp [maxLen]; done)
  try case qc5 => omega
  try case qc6 => first | (simp; omega) | (simp; done) | omega
  intro v5 w5 ho hgr _
  rw [all_vals] at ho
  obtain ⟨f, cap5, rfl, hf1, hf2⟩ := ho.form (by omega)
  obtain ⟨q1, q2, q3, q4⟩ := owns_cap ho (by omega)
  unfold maxLen at q2
  have hb5 : Below w3.heap.size w4 w5 := ((Below.refl _ w4).alloc g4 _).grown hgr (by simp; omega) (fun k hk => (O4.out.lt k hk).1)
  have B5 : Hid (Below w.heap.size w w5) := B4.out.trans (hb5.mono B3.out.size)
  have R5 : Hid (∀ t, t < s + 1 → w5.cell? ⟨g, 0 + t, none⟩ = some (.int .i32 (winF l ln s x t))) := fun t ht => (hb5.cell (p := ⟨g, 0 + t, none⟩) hg2).trans (R4.out t ht)
  have A5 : Hid (∀ t, t < ln + 1 → w5.cell? ⟨f, t, none⟩ = some (.int .i32 (allF l ln x t))) := fun t ht => by
    have := ho.cellAt t (by omega)
    rw [vals_get ht, Nat.zero_add] at this
    exact this
  clear ho hgr hb5 O4 R4 B4 hf1 hf2
  go_wp2_with fail
  go_loopg [20] (ln + 2) (fun gk s20 wr => ∃ d : Nat, s20 = .slice (some ⟨f, d, none⟩) (ln + 1 - d) (cap5 - d) ∧ ln + 1 - d < gk ∧ d + s ≤ ln ∧ wr = w5)
  case atStart => exact ⟨0, rfl, by omega, by omega, rfl⟩
  case round =>
    obtain ⟨d, rfl, hgk, hd, rfl⟩ := hrel
    by_cases hlt : d + s < ln
    · have t1 : (k : Int) < ((ln + 1 - d : Nat) : Int) := by omega
      have t2 : ¬ cap5 - d = 1 := by omega
      have t3 : (1 : Int) ≤ ((ln + 1 - d : Nat) : Int) := by omega
      obtain ⟨L1, hL1⟩ : ∃ L1 : Nat, L1 = ln + 1 - d := ⟨_, rfl⟩
      obtain ⟨C1, hC1⟩ : ∃ C1 : Nat, C1 = cap5 - d := ⟨_, rfl⟩
      rw [← hL1] at t1 t3 ⊢
      rw [← hC1] at t2 ⊢
      have HL1 : Hid (L1 = ln + 1 - d ∧ C1 = cap5 - d) := ⟨hL1, hC1⟩
      have t4 : L1 ≤ C1 := by omega
      have t5 : C1 ≤ 9223372036854775807 := by omega
      clear hL1 hC1
      go_wp2_with fail
      go_roundg (ln + 1 - d)
      case measure => omega
      case rel => exact ⟨d + 1, by rw [show L1 - 1 = ln + 1 - (d + 1) by have := HL1.out.1; omega, show C1 - 1 = cap5 - (d + 1) by have := HL1.out.2; omega], by omega, by omega, rfl⟩
    · have e1 : ln + 1 - d = s + 1 := by omega
      rw [e1]
      have t1 : ¬ (k : Int) < (s : Int) + 1 := by omega
      generalize cap5 - d = C1
      have hE : eqB (winF l ln s x) (fun t => allF l ln x (d + t)) (s + 1) = true := (eqB_iff _ _ _).2 fun t ht => by
        unfold winF allF
        by_cases q : t < s
        · rw [if_pos q, if_pos (by omega), show ln - s + t = d + t by omega]
        · rw [if_neg q, if_neg (by omega)]
      have CE := equal_any g 0 f d (s + 1) cap C1 (winF l ln s x) (fun t => allF l ln x (d + t)) wr (by omega) (fun t ht => R5.out t ht) (fun t ht => A5.out (d + t) (by omega))
      rw [hE] at CE
      clear hE e1
      go_wp2_with fail
      refine CE.mono ?_
      rintro r w6 ⟨rfl, dd, hw6⟩
      have B6 : Hid (Below w.heap.size w w6) := by rw [hw6]; exact ⟨B5.out.os, B5.out.tape, B5.out.output, B5.out.size, B5.out.block⟩
      clear hw6 CE R5 A5 B5
      go_wp2_with fail
      refine (c1 _).mono ?_
      rintro r WA ⟨rfl, rfl⟩
      go_wp2_with fail
      refine (c2 _).mono ?_
      rintro r WA ⟨rfl, rfl⟩
      go_wp2_with fail
      refine (c3 _).mono ?_
      rintro r WA ⟨rfl, rfl⟩
      go_wp2_with fail
      refine (c4 _).mono ?_
      rintro r WA ⟨rfl, rfl⟩
      go_wp2_with fail
      refine (c5 _).mono ?_
      rintro r WA ⟨rfl, rfl⟩
      go_wp2_with fail
      refine (c6 _).mono ?_
      rintro r WA ⟨rfl, rfl⟩
      go_wp2_with fail
      go_ret
      exact ⟨by simp, B6.out⟩

theorem walk (y : Int) (x : Int) (most : Int) (n : Int) (on : Bool) (la : Option Addr) (ln lc : Nat) (l : Nat → Int) (w : World) (h_y : (Lit.int .i32 y).wf = true) (h_x : (Lit.int .i32 x).wf = true) (h_most : (Lit.int .i32 most).wf = true) (h_n : (Lit.int .i64 n).wf = true) (h_l : RowK .i32 w la ln lc l) :
    Calls Try.prog 3 #[.int .i32 y, .int .i32 x, .int .i32 most, .int .i64 n, .bool on, .slice la ln lc] w fun e w' => e = .returned (.bool true) ∧ Below w.heap.size w w' := by
  obtain ⟨y1, y2⟩ := i32_of h_y
  obtain ⟨x1, x2⟩ := i32_of h_x
  obtain ⟨m1, m2⟩ := i32_of h_most
  obtain ⟨m, e, hm⟩ := mids h_l
  by_cases hn : n < 0 ∨ 30 < n
  · by_cases hw : n < 1 ∨ 64 < n
    · exact arg_bad y x most n on la ln lc w y1 y2 x1 x2 m1 m2 hn m e hm hw
    · rcases Nat.lt_or_ge 64 ln with h64 | h64
      · exact large_bad y x most n on la ln lc w y1 y2 x1 x2 m1 m2 hn m e hm (by omega) (by omega) h64
      · exact good_bad y x most n on la ln lc w y1 y2 x1 x2 m1 m2 hn l m e hm (by omega) (by omega) h64 h_l
  · obtain ⟨k, rfl⟩ := Int.eq_ofNat_of_zero_le (show 0 ≤ n by omega)
    by_cases hw : (k : Int) < 1 ∨ 64 < (k : Int)
    · exact arg_good y x most k on la ln lc w y1 y2 x1 x2 m1 m2 (by omega) m e hm hw
    · rcases Nat.lt_or_ge 64 ln with h64 | h64
      · exact large_good y x most k on la ln lc w y1 y2 x1 x2 m1 m2 (by omega) m e hm (by omega) (by omega) h64
      · exact good_good y x most k on la ln lc w y1 y2 x1 x2 m1 m2 (by omega) l m e hm (by omega) (by omega) h64 h_l

/-! ### THE ROW's STEP -/
set_option maxRecDepth 100000 in
theorem lifted (os : Os) (started : os.Started) (H : Type) (enc : TypeId × Value → H) :
    ReturnsInHanded {} Try.checked os 3 .any (Rows.filtSaysSpec.pre6 enc Try.prog Try.f3 Rows.filtSaysRow.domain false) (Rows.filtSaysSpec.post enc Try.prog Try.f3 false true false false) := by
  refine returnsInHanded_of_change (C := Try.checked) own started (by kernel_rfl) Try.func3
    (ChangeSpec.witness6 (enc := enc) (C := Try.checked) false ⟨#[], #[.int .i32 0, .int .i32 0, .int .i32 0, .int .i64 0, .bool false, .slice none 0 0], []⟩ 8 (by kernel_rfl) (by kernel_rfl) (by kernel_rfl) (by kernel_rfl)) ?_
  intro W base args ds gs before hval0 hW hcnd _
  have hval : ∀ (j : Nat) t v, Try.f3.params[j]? = some t → args[j]? = some v → Value.okWide Try.prog W .any base t v := hval0
  have hW' := hW
  obtain ⟨p, q, hA0, hV, rfl, hfz, hnd⟩ := hW
  have hA : DataW.TrodAll enc Try.prog W 0 (fun _ => true) true Try.f3.params.toList args.toList ds p := hA0
  rw [Try.params3] at hA hval
  obtain ⟨v0, vs0, d0, ds0, p0, q0, hargs, rfl, rfl, h0, r0⟩ := trodAll_cons hA
  obtain ⟨v1, vs1, d1, ds1, p1, q1, rfl, rfl, rfl, h1, r1⟩ := trodAll_cons r0
  obtain ⟨v2, vs2, d2, ds2, p2, q2, rfl, rfl, rfl, h2, r2⟩ := trodAll_cons r1
  obtain ⟨v3, vs3, d3, ds3, p3, q3, rfl, rfl, rfl, h3, r3⟩ := trodAll_cons r2
  obtain ⟨v4, vs4, d4, ds4, p4, q4, rfl, rfl, rfl, h4, r4⟩ := trodAll_cons r3
  obtain ⟨v5, vs5, d5, ds5, p5, q5, rfl, rfl, rfl, h5, r5⟩ := trodAll_cons r4
  obtain ⟨rfl, rfl, rfl⟩ := trodAll_nil r5
  obtain rfl : args = #[v0, v1, v2, v3, v4, v5] := by cases args; simp_all
  obtain ⟨rfl, rfl⟩ := trodVars_none hV
  have k0 := h0
  have lt0 : ∀ x ∈ p0, x.block < W.heap.size := by obtain ⟨m, hm⟩ := k0; exact DataW.trod_lt m _ _ _ hm
  obtain ⟨y, rfl, rfl, rfl, h_y⟩ := open_int Try.underlying21 (hval 0 21 v0 rfl rfl) h0
  have k1 := h1
  have lt1 : ∀ x ∈ p1, x.block < W.heap.size := by obtain ⟨m, hm⟩ := k1; exact DataW.trod_lt m _ _ _ hm
  obtain ⟨x, rfl, rfl, rfl, h_x⟩ := open_int Try.underlying21 (hval 1 21 v1 rfl rfl) h1
  have k2 := h2
  have lt2 : ∀ x ∈ p2, x.block < W.heap.size := by obtain ⟨m, hm⟩ := k2; exact DataW.trod_lt m _ _ _ hm
  obtain ⟨most, rfl, rfl, rfl, h_most⟩ := open_int Try.underlying21 (hval 2 21 v2 rfl rfl) h2
  have k3 := h3
  have lt3 : ∀ x ∈ p3, x.block < W.heap.size := by obtain ⟨m, hm⟩ := k3; exact DataW.trod_lt m _ _ _ hm
  obtain ⟨n, rfl, rfl, rfl, h_n⟩ := open_int Try.underlying3 (hval 3 3 v3 rfl rfl) h3
  have k4 := h4
  have lt4 : ∀ x ∈ p4, x.block < W.heap.size := by obtain ⟨m, hm⟩ := k4; exact DataW.trod_lt m _ _ _ hm
  obtain ⟨on, rfl, rfl, rfl⟩ := open_bool Try.underlying4 (hval 4 4 v4 rfl rfl) h4
  have k5 := h5
  have lt5 : ∀ x ∈ p5, x.block < W.heap.size := by obtain ⟨m, hm⟩ := k5; exact DataW.trod_lt m _ _ _ hm
  obtain ⟨la, ln, lc, rfl⟩ := okWide_slice Try.underlying22 (hval 5 22 v5 rfl rfl)
  obtain ⟨l, h_l⟩ : ∃ l, RowK .i32 W la ln lc l := by
    obtain ⟨fuel, hf⟩ := h5
    obtain ⟨a, m, c, l, hcs, hr⟩ := rowK_of Try.underlying22 Try.underlying21 (by kernel_rfl) hf
    simp [Value.cells] at hcs
    obtain ⟨rfl, rfl, rfl⟩ := hcs
    exact ⟨l, hr⟩
  clear hA0 hval0
  refine (walk y x most n on la ln lc l W h_y h_x h_most h_n h_l).mono fun e W' ⟨he, bel⟩ => ?_
  subst he
  exact ⟨_, rfl, _, _, _, [], _, [], hW', trodAll_mk1 (shut_bool Try.underlying4 _), (trodAll_cons_mk (Below.trod laidOut (by kernel_rfl) (of_decide_eq_true (by kernel_rfl)) k0 bel lt0) (trodAll_cons_mk (Below.trod laidOut (by kernel_rfl) (of_decide_eq_true (by kernel_rfl)) k1 bel lt1) (trodAll_cons_mk (Below.trod laidOut (by kernel_rfl) (of_decide_eq_true (by kernel_rfl)) k2 bel lt2) (trodAll_cons_mk (Below.trod laidOut (by kernel_rfl) (of_decide_eq_true (by kernel_rfl)) k3 bel lt3) (trodAll_cons_mk (Below.trod laidOut (by kernel_rfl) (of_decide_eq_true (by kernel_rfl)) k4 bel lt4) (trodAll_cons_mk (Below.trod laidOut (by kernel_rfl) (of_decide_eq_true (by kernel_rfl)) k5 bel lt5) trodAll_mk0)))))), rfl, bel.frame _, fun h => by cases h⟩

theorem over : Rows.filtSaysRow.holds Try.pinned (OpenSpec.ofChange Rows.filtSaysSpec) :=
  OpenClaim.holds_of_wide 3 Try.f3 rfl rfl rfl rfl rfl rfl rfl ⟨rfl, rfl, rfl, rfl, rfl⟩ rfl rfl rfl rfl rfl (by kernel_rfl) Try.func3 (by kernel_rfl)
    (of_decide_eq_true (by kernel_rfl)) (by unfold Func.isWrapper; first | (rw [if_pos (by decide +kernel)]; kernel_rfl) | (rw [if_neg (by decide +kernel)]; exact ⟨rfl, rfl⟩))
    (fun os started H enc _ => lifted os started H enc)


end Go.Proofs.Ytdfpbdocbdapbaa.filtSays
namespace Go.Proofs.Ytdfpbdocbdapbaa
/-- THE STATEMENT -/
theorem filtSays_holds : Rows.FiltSaysSaid := filtSays.over
#print axioms filtSays_holds
end Go.Proofs.Ytdfpbdocbdapbaa
