/-
  Contracts of package table's own small functions: each returns what a plain function of whole numbers gives, and leaves memory as it was.
-/
import Derived.Test.YtdfpbdocbdapbabTabPlain
import Derived.Test.YtdfpbdocbdapbabSat
import Derived.Deep.QuietTactic
import Derived.BigQuiet
import Derived.Below
namespace Go.Proofs.Ytdfpbdocbdapbab
open Go.RowKit

/-- numbers of 32 bits that lie one behind another -/
def Row32 (w : World) (b off n : Nat) (l : Nat → Int) : Prop := ∀ j : Nat, j < n → w.cell? ⟨b, off + j, none⟩ = some (.int .i32 (l j))
def In32 (l : Nat → Int) : Prop := ∀ j : Nat, -2147483648 ≤ l j ∧ l j ≤ 2147483647

theorem mul_le2 {a b A B : Int} (a0 : 0 ≤ a) (a1 : a ≤ A) (b0 : 0 ≤ b) (b1 : b ≤ B) : 0 ≤ a * b ∧ a * b ≤ A * B :=
  ⟨Int.mul_nonneg a0 b0, Int.mul_le_mul a1 b1 b0 (by omega)⟩

theorem risen_neg (a c b : Int) (c0 : 0 < c) : risenI a c b = -(a * -b / c) - if a * -b % c = 0 then 0 else 1 := by
  unfold risenI
  have e : a * b = -(a * -b) := by rw [Int.mul_neg, Int.neg_neg]
  have h := Int.neg_ediv (a := a * -b) (b := c)
  rw [← e] at h
  rw [h, Int.sign_eq_one_of_pos c0]
  by_cases g : c ∣ a * -b
  · rw [if_pos g, if_pos (Int.emod_eq_zero_of_dvd g)]
  · rw [if_neg g, if_neg (fun x => g (Int.dvd_of_emod_eq_zero x))]

set_option maxHeartbeats 400000 in
theorem risen_any (a c b : Int) (w : World) (a0 : 0 ≤ a) (a1 : a ≤ c) (c0 : 0 < c) (c1 : c ≤ 4294967295) (b0 : -4294967295 ≤ b) (b1 : b ≤ 4294967295) :
    Calls Try.prog 16 #[.int .i64 a, .int .i64 c, .int .i64 b] w fun e w' => e = .returned (.int .i64 (risenI a c b)) ∧ w' = w := by
  rcases Int.lt_or_le b 0 with h | h
  · have m := mul_le2 (A := 4294967295) (B := 4294967295) a0 (by omega) (show 0 ≤ -b by omega) (by omega)
    have d := (risen_bd (rise := -b) a0 a1 c0).1 (by omega)
    have n := risen_neg a c b c0
    unfold risenI at d
    have N : Hid (risenI a c b = -(a * -b / c) - if a * -b % c = 0 then 0 else 1) := n
    clear n
    by_cases g : a * -b % c = 0
    · go_enter Try.func16, Try.ntmps16
      go_wp2
      go_ret
      exact ⟨ret_int (by rw [N.out, if_pos g, Int.sub_zero]), rfl⟩
    · have g' : (a * -b % c != 0) = true := by simpa using g
      go_enter Try.func16, Try.ntmps16
      go_wp2
      go_ret
      exact ⟨ret_int (by rw [N.out, if_neg g]; omega), rfl⟩
  · have m := mul_le2 (A := 4294967295) (B := 4294967295) a0 (by omega) h b1
    have d := (risen_bd a0 a1 c0).1 h
    unfold risenI at d
    go_enter Try.func16, Try.ntmps16
    go_wp2
    go_ret
    exact ⟨ret_int (by unfold risenI; rfl), rfl⟩

set_option maxHeartbeats 400000 in
theorem pointAt_any (b off n cap : Nat) (l : Nat → Int) (x : Int) (k : Nat) (w : World) (hr : Rises l n) (hm : n ≤ 64) (hc : Row32 w b off n l) (hk : k + 1 < n) (h1 : l k ≤ x) (h2 : x < l (k + 1)) :
    Calls Try.prog 14 #[.slice (some ⟨b, off, none⟩) n cap, .int .i32 x] w fun e w' => e = .returned (.int .i64 k) ∧ w' = w := by
  unfold Row32 at hc
  go_enter Try.func14, Try.ntmps14
  go_wp2
  go_loop [5] (fun i => ∃ j : Nat, j ≤ k ∧ i = .int .i64 j) (fun i => k - (intOf i).toNat)
  case atStart => exact ⟨0, Nat.zero_le _, rfl⟩
  case round =>
    obtain ⟨j, hj, rfl⟩ := hrel
    have hcell := hc (j + 1) (by omega)
    by_cases e : j = k
    · subst e
      clear hr hc
      go_wp2
      go_ret
      exact ⟨rfl, rfl⟩
    · have le := rises_le hr (show j + 1 ≤ k by omega) (by omega)
      clear hr hc
      have le' : l (j + 1) ≤ x := by omega
      go_wp2
      go_round
      case rel => exact ⟨j + 1, by omega, by go_num⟩
      case measure => simp [intOf]; omega

set_option maxHeartbeats 400000 in
theorem rises_any (b off n cap : Nat) (l : Nat → Int) (w : World) (hm : n ≤ 64) (h0 : 0 < n) (hc : Row32 w b off n l) :
    Calls Try.prog 15 #[.slice (some ⟨b, off, none⟩) n cap] w fun e w' => e = .returned (.bool (risesB l n)) ∧ ∃ d, w' = w.drewN d := by
  unfold Row32 at hc
  go_enter Try.func15, Try.ntmps15
  go_wp2
  go_loopw [3] (fun i wr => ∃ j d : Nat, j + 1 ≤ n ∧ i = .int .i64 ((j : Int) + 1) ∧ wr = w.drewN d ∧ ∀ m : Nat, m < j → l m < l (m + 1)) (fun i _ => n - (intOf i).toNat)
  case atStart => exact ⟨0, 0, by omega, rfl, rfl, fun m h => absurd h (by omega)⟩
  case round =>
    obtain ⟨j, d, hj, rfl, rfl, hl⟩ := hrel
    have L : Hid (∀ m : Nat, m < j → l m < l (m + 1)) := hl
    clear hl
    by_cases e : n ≤ j + 1
    · have R : Hid (risesB l n = true) := (risesB_iff l n).2 (fun m h => L.out m (by omega))
      clear hc
      go_wp2
      go_ret
      exact ⟨by rw [R.out]; rfl, d, rfl⟩
    · have c0 := hc j (by omega)
      have c1 := hc (j + 1) (by omega)
      clear hc
      rcases Int.lt_or_le (l j) (l (j + 1)) with g | g
      · go_wp2
        go_quiet (fail)
        go_wp2
        go_roundw
        case rel => exact ⟨j + 1, _, by omega, by go_num, rfl, fun m h => by
          by_cases e : m = j
          · subst e; exact g
          · exact L.out m (by omega)⟩
        case measure => simp [intOf]; omega
      · have R : Hid (risesB l n = false) := risesB_no j (by omega) g
        go_wp2
        go_quiet (fail)
        go_wp2
        go_ret
        exact ⟨by rw [R.out]; rfl, _, World.drewN_drewN _ _ _⟩

/-- behind a call that leaves all old memory as it was: all old cells, all old marks -/
theorem bcell {W w1 : World} (hb : Below W.heap.size W w1) : (∀ b o, b < W.heap.size → w1.cell? ⟨b, o, none⟩ = W.cell? ⟨b, o, none⟩) ∧ (∀ b o, b < W.heap.size → w1.frozen? ⟨b, o, none⟩ = W.frozen? ⟨b, o, none⟩) :=
  ⟨fun b o h => hb.cell (p := ⟨b, o, none⟩) h, fun b o h => hb.frozen (p := ⟨b, o, none⟩) h⟩
theorem Row32.below {w w' : World} {B b off n : Nat} {l : Nat → Int} (h : Row32 w b off n l) (hb : Below B w w') (hB : b < B) : Row32 w' b off n l :=
  fun j hj => (hb.cell (p := ⟨b, off + j, none⟩) hB).trans (h j hj)
theorem Row32.drewN {w : World} {b off n : Nat} {l : Nat → Int} (h : Row32 w b off n l) (d : Nat) : Row32 (w.drewN d) b off n l := h
theorem Row32.alloc {w : World} {b off n : Nat} {l : Nat → Int} (h : Row32 w b off n l) (hB : b < w.heap.size) (o : Obj) : Row32 (w.alloc o) b off n l :=
  h.below (B := w.heap.size) ((Below.refl _ _).alloc (Nat.le_refl _) o) hB

set_option maxHeartbeats 400000 in
theorem check_large (aX aY : Option Addr) (nX cX nY cY : Nat) (w : World) (h : 64 < nX) (h' : nX ≤ 9223372036854775807) :
    Calls Try.prog 12 #[.agg #[.slice aX nX cX, .slice aY nY cY]] w fun e w' => e = .returned (.int .i64 2) ∧ Below w.heap.size w w' := by
  go_enter Try.func12, Try.ntmps12
  go_wp2
  go_ret
  exact ⟨rfl, (Below.refl _ _).alloc (Nat.le_refl _) _⟩

set_option maxHeartbeats 400000 in
theorem check_none (aX aY : Option Addr) (cX nY cY : Nat) (w : World) :
    Calls Try.prog 12 #[.agg #[.slice aX 0 cX, .slice aY nY cY]] w fun e w' => e = .returned (.int .i64 4) ∧ Below w.heap.size w w' := by
  go_enter Try.func12, Try.ntmps12
  go_wp2
  go_ret
  exact ⟨rfl, (Below.refl _ _).alloc (Nat.le_refl _) _⟩

set_option maxHeartbeats 400000 in
theorem check_apart (aX aY : Option Addr) (nX cX nY cY : Nat) (w : World) (h : nX ≤ 64) (h0 : 0 < nX) (h1 : nY ≠ nX) :
    Calls Try.prog 12 #[.agg #[.slice aX nX cX, .slice aY nY cY]] w fun e w' => e = .returned (.int .i64 4) ∧ Below w.heap.size w w' := by
  go_enter Try.func12, Try.ntmps12
  go_wp2
  go_ret
  exact ⟨rfl, (Below.refl _ _).alloc (Nat.le_refl _) _⟩

set_option maxHeartbeats 400000 in
theorem check_row (b off : Nat) (aY : Option Addr) (n cX cY : Nat) (X : Nat → Int) (w : World) (h : n ≤ 64) (h0 : 0 < n) (hb : b < w.heap.size) (hX : Row32 w b off n X) :
    Calls Try.prog 12 #[.agg #[.slice (some ⟨b, off, none⟩) n cX, .slice aY n cY]] w fun e w' => e = .returned (.int .i64 (if risesB X n then 0 else 4)) ∧ Below w.heap.size w w' := by
  have hX' := fun o => hX.alloc hb o
  clear hX
  rcases hB : risesB X n with _ | _
  · go_enter Try.func12, Try.ntmps12
    go_wp2_with (go_at_call 15; refine (rises_any _ _ _ _ X _ h h0 (hX' _)).mono ?_; rintro e w' ⟨rfl, d, rfl⟩)
    go_ret
    exact ⟨rfl, below_drewN ((Below.refl _ _).alloc (Nat.le_refl _) _) _⟩
  · go_enter Try.func12, Try.ntmps12
    go_wp2_with (go_at_call 15; refine (rises_any _ _ _ _ X _ h h0 (hX' _)).mono ?_; rintro e w' ⟨rfl, d, rfl⟩)
    go_ret
    exact ⟨rfl, below_drewN ((Below.refl _ _).alloc (Nat.le_refl _) _) _⟩

end Go.Proofs.Ytdfpbdocbdapbab
