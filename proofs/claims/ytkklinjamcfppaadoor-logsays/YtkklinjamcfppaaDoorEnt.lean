/-
  An entry of a log as plain data: which are right, which may follow which, what is wrong with a log. Contracts of log.isFrom, isRight, isAlike, mayFollow. Of the memory that was there nothing turns.
-/
import Derived.Test.YtkklinjamcfppaaDoorBoxes
import Derived.Handy
import Derived.BigQuiet
import Derived.Deep.RegionHeld3
namespace Go.Proofs.YtkklinjamcfppaaDoor
open Go.RowKit
set_option linter.unusedVariables false

structure En where
  f : Int
  l : Int
  c : Int
  m : Int

def frB (n a b : Int) : Bool := decide (a ≤ n) && decide (n ≤ b)
/-- an entry is right -/
def okE (x : En) : Bool := frB x.f 0 1073741824 && frB x.l 0 4 && frB x.c 1 20 && frB x.m 1 9999
/-- the same went wrong at the same place -/
def alB (x y : En) : Bool := (x.l == y.l) && (x.c == y.c)
/-- x may stand behind y -/
def mayB (x y : En) : Bool := decide (y.f ≤ x.f) && !alB x y
/-- what is wrong with the k-th one -/
def wrE (l : Nat → En) (k : Nat) : Int := if okE (l k) = true then (if 0 < k ∧ mayB (l k) (l (k - 1)) = false then 4 else 0) else 1
/-- what is wrong with the first one of those that is wrong, of n -/
def fsE (l : Nat → En) : Nat → Int
  | 0 => 0
  | k + 1 => if fsE l k = 0 then wrE l k else fsE l k
/-- what Check tells of n entries -/
def chE (l : Nat → En) (n : Nat) : Int := if 32 < n then 2 else fsE l n
theorem fsE_stay {l : Nat → En} {k n : Nat} (h : fsE l k ≠ 0) (hk : k ≤ n) : fsE l n = fsE l k := by
  induction n with
  | zero =>
    obtain rfl : k = 0 := by omega
    rfl
  | succ n ih =>
    by_cases e : k = n + 1
    · rw [e]
    · have := ih (by omega)
      show (if fsE l n = 0 then wrE l n else fsE l n) = _
      rw [this, if_neg h]
theorem fsE_first {l : Nat → En} {k n : Nat} (h : fsE l k = 0) (hw : wrE l k ≠ 0) (hk : k < n) : fsE l n = wrE l k := by
  have e : fsE l (k + 1) = wrE l k := by
    show (if fsE l k = 0 then wrE l k else fsE l k) = _
    rw [if_pos h]
  rw [← e]
  exact fsE_stay (by rw [e]; exact hw) hk
theorem fsE_next {l : Nat → En} {k : Nat} (h : fsE l k = 0) (hw : wrE l k = 0) : fsE l (k + 1) = 0 := by
  show (if fsE l k = 0 then wrE l k else fsE l k) = 0
  rw [if_pos h, hw]
theorem wrE_arg {l : Nat → En} {k : Nat} (h : okE (l k) = false) : wrE l k = 1 := by unfold wrE; rw [h]; simp
theorem wrE_form {l : Nat → En} {k : Nat} (h : okE (l k) = true) (hk : 0 < k) (hm : mayB (l k) (l (k - 1)) = false) : wrE l k = 4 := by unfold wrE; rw [if_pos h, if_pos ⟨hk, hm⟩]
theorem wrE_ok {l : Nat → En} {k : Nat} (h : okE (l k) = true) (hm : 0 < k → mayB (l k) (l (k - 1)) = true) : wrE l k = 0 := by
  unfold wrE
  rw [if_pos h]
  split
  · rename_i q
    rw [hm q.1] at q
    exact absurd q.2 (by simp)
  · rfl
theorem twoB (b : Bool) : b = false ∨ b = true := by cases b <;> simp

set_option maxHeartbeats 1000000 in
theorem isFrom_any (n a b : Int) (w : World) : Calls Tryd.prog 34 #[.int .i64 n, .int .i64 a, .int .i64 b] w fun e w' => e = .returned (.bool (frB n a b)) ∧ w' = w := by
  by_cases h1 : a ≤ n
  · by_cases h2 : n ≤ b
    · have q : Hid (frB n a b = true) := by show frB n a b = true; unfold frB; simp [h1, h2]
      go_enter Tryd.func34, Tryd.ntmps34
      go_wp2_with fail
      go_ret
      exact ⟨by rw [q.out]; rfl, rfl⟩
    · have q : Hid (frB n a b = false) := by show frB n a b = false; unfold frB; simp [h2]
      go_enter Tryd.func34, Tryd.ntmps34
      go_wp2_with fail
      go_ret
      exact ⟨by rw [q.out]; rfl, rfl⟩
  · have q : Hid (frB n a b = false) := by show frB n a b = false; unfold frB; simp [h1]
    go_enter Tryd.func34, Tryd.ntmps34
    go_wp2_with fail
    go_ret
    exact ⟨by rw [q.out]; rfl, rfl⟩

set_option maxHeartbeats 4000000 in
theorem isRight_any (x : En) (w : World) : Calls Tryd.prog 20 #[.agg #[.int .i64 x.f, .int .i64 x.l, .int .i64 x.c, .int .i64 x.m]] w fun e w' => e = .returned (.bool (okE x)) ∧ Below w.heap.size w w' := by
  have C : Hid (∀ (n a b : Int) (W : World), Calls Tryd.prog 34 #[.int .i64 n, .int .i64 a, .int .i64 b] W fun e w' => e = .returned (.bool (frB n a b)) ∧ w' = W) := isFrom_any
  obtain ⟨f, l, c, m⟩ := x
  show Calls Tryd.prog 20 #[.agg #[.int .i64 f, .int .i64 l, .int .i64 c, .int .i64 m]] w _
  have q : Hid ((frB f 0 1073741824 && frB l 0 4 && frB c 1 20 && frB m 1 9999) = okE ⟨f, l, c, m⟩) := rfl
  generalize okE ⟨f, l, c, m⟩ = r at q ⊢
  rcases twoB (frB f 0 1073741824) with h1 | h1
  · have q2 := q.out
    rw [h1] at q2
    have Q : Hid (r = false) := by show r = false; simpa using q2.symm
    clear q q2
    go_enter Tryd.func20, Tryd.ntmps20
    go_wp2_with (go_at_call 34; refine (C.out _ _ _ _).mono ?_; rintro e w' ⟨rfl, rfl⟩)
    go_ret
    exact ⟨by rw [Q.out]; rfl, by go_grown⟩
  · rcases twoB (frB l 0 4) with h2 | h2
    · have q2 := q.out
      rw [h1, h2] at q2
      have Q : Hid (r = false) := by show r = false; simpa using q2.symm
      clear q q2
      go_enter Tryd.func20, Tryd.ntmps20
      go_wp2_with (go_at_call 34; refine (C.out _ _ _ _).mono ?_; rintro e w' ⟨rfl, rfl⟩)
      go_ret
      exact ⟨by rw [Q.out]; rfl, by go_grown⟩
    · rcases twoB (frB c 1 20) with h3 | h3
      · have q2 := q.out
        rw [h1, h2, h3] at q2
        have Q : Hid (r = false) := by show r = false; simpa using q2.symm
        clear q q2
        go_enter Tryd.func20, Tryd.ntmps20
        go_wp2_with (go_at_call 34; refine (C.out _ _ _ _).mono ?_; rintro e w' ⟨rfl, rfl⟩)
        go_ret
        exact ⟨by rw [Q.out]; rfl, by go_grown⟩
      · have q2 := q.out
        rw [h1, h2, h3] at q2
        have Q : Hid (frB m 1 9999 = r) := by show frB m 1 9999 = r; simpa using q2
        clear q q2
        go_enter Tryd.func20, Tryd.ntmps20
        go_wp2_with (go_at_call 34; refine (C.out _ _ _ _).mono ?_; rintro e w' ⟨rfl, rfl⟩)
        go_ret
        exact ⟨by rw [Q.out]; rfl, by go_grown⟩

set_option maxHeartbeats 1000000 in
theorem isAlike_any (x y : En) (w : World) : Calls Tryd.prog 21 #[.agg #[.int .i64 x.f, .int .i64 x.l, .int .i64 x.c, .int .i64 x.m], .agg #[.int .i64 y.f, .int .i64 y.l, .int .i64 y.c, .int .i64 y.m]] w fun e w' => e = .returned (.bool (alB x y)) ∧ Below w.heap.size w w' := by
  obtain ⟨f, l, c, m⟩ := x
  obtain ⟨g, k, d, n⟩ := y
  show Calls Tryd.prog 21 #[.agg #[.int .i64 f, .int .i64 l, .int .i64 c, .int .i64 m], .agg #[.int .i64 g, .int .i64 k, .int .i64 d, .int .i64 n]] w _
  have q : Hid (((l == k) && (c == d)) = alB ⟨f, l, c, m⟩ ⟨g, k, d, n⟩) := rfl
  generalize alB ⟨f, l, c, m⟩ ⟨g, k, d, n⟩ = r at q ⊢
  rcases twoB (l == k) with h1 | h1
  · have q2 := q.out
    rw [h1] at q2
    have Q : Hid (r = false) := by show r = false; simpa using q2.symm
    clear q q2
    go_enter Tryd.func21, Tryd.ntmps21
    go_wp2_with fail
    go_ret
    exact ⟨by rw [Q.out]; rfl, by go_grown⟩
  · have q2 := q.out
    rw [h1] at q2
    have Q : Hid ((c == d) = r) := by show (c == d) = r; simpa using q2
    clear q q2
    go_enter Tryd.func21, Tryd.ntmps21
    go_wp2_with fail
    go_ret
    exact ⟨by rw [Q.out]; rfl, by go_grown⟩

set_option maxHeartbeats 2000000 in
theorem mayFollow_any (x y : En) (w : World) : Calls Tryd.prog 33 #[.agg #[.int .i64 x.f, .int .i64 x.l, .int .i64 x.c, .int .i64 x.m], .agg #[.int .i64 y.f, .int .i64 y.l, .int .i64 y.c, .int .i64 y.m]] w fun e w' => e = .returned (.bool (mayB x y)) ∧ Below w.heap.size w w' := by
  have C : Hid (∀ (W : World), Calls Tryd.prog 21 #[.agg #[.int .i64 x.f, .int .i64 x.l, .int .i64 x.c, .int .i64 x.m], .agg #[.int .i64 y.f, .int .i64 y.l, .int .i64 y.c, .int .i64 y.m]] W fun e w' => e = .returned (.bool (alB x y)) ∧ Below W.heap.size W w') := isAlike_any x y
  have q : Hid (mayB x y = (decide (y.f ≤ x.f) && !alB x y)) := rfl
  generalize mayB x y = r at q ⊢
  generalize alB x y = b at q C ⊢
  by_cases h1 : y.f ≤ x.f
  · have Q : Hid (r = !b) := by
      show r = !b
      rw [q.out]
      simp [h1]
    clear q
    go_enter Tryd.func33, Tryd.ntmps33
    go_wp2_with fail
    refine (C.out _).mono ?_
    rintro e w1 ⟨rfl, hb⟩
    have B : Hid (Below w.heap.size w w1) := (((Below.refl _ w).alloc (Nat.le_refl _) _).alloc (by simp) _).trans (hb.mono (by simp <;> omega))
    clear hb
    go_wp2_with fail
    go_ret
    exact ⟨by rw [Q.out]; rfl, B.out⟩
  · have Q : Hid (r = false) := by
      show r = false
      rw [q.out]
      simp [h1]
    clear q
    go_enter Tryd.func33, Tryd.ntmps33
    go_wp2_with fail
    go_ret
    exact ⟨by rw [Q.out]; rfl, by go_grown⟩

end Go.Proofs.YtkklinjamcfppaaDoor
