/-
  Contracts of tick.Midway and tick.Adjust.
-/
import Derived.Test.YtdnjipikggehmaaTik
namespace Go.Proofs.Ytdnjipikggehmaa
open Go.RowKit
set_option linter.unusedVariables false

set_option maxHeartbeats 1000000 in
theorem midway_large (a : Option Addr) (n c : Nat) (f : Int) (h : 64 < n) (w : World) : Calls Try.prog 7 #[.slice a n c, .int .i64 f] w fun e w' => e = .returned (.tuple #[.int .i64 0, .int .i64 2]) ∧ w' = w := by
  have z2 : (64 : Int) < (n : Int) := by omega
  go_enter Try.func7, Try.ntmps7
  go_wp2_with fail
  go_ret2
  exact ⟨rfl, rfl⟩

set_option maxHeartbeats 1000000 in
theorem midway_neg (a : Option Addr) (n c : Nat) (f : Int) (h : n ≤ 64) (hf : f < 0) (w : World) : Calls Try.prog 7 #[.slice a n c, .int .i64 f] w fun e w' => e = .returned (.tuple #[.int .i64 0, .int .i64 1]) ∧ w' = w := by
  have z2 : ¬ (64 : Int) < (n : Int) := by omega
  go_enter Try.func7, Try.ntmps7
  go_wp2_with fail
  go_ret2
  exact ⟨rfl, rfl⟩

set_option maxHeartbeats 1000000 in
theorem midway_arg (a : Option Addr) (n c : Nat) (l : Nat → Int) (f : Int) (h : n ≤ 64) (hf : 0 ≤ f) (w : World) (hr : R64 w a n l) (ht : allT l n = false) : Calls Try.prog 7 #[.slice a n c, .int .i64 f] w fun e w' => e = .returned (.tuple #[.int .i64 0, .int .i64 1]) ∧ w' = w := by
  have C := areTicks_any a n c l w h hr
  rw [ht] at C
  have z2 : ¬ (64 : Int) < (n : Int) := by omega
  have z3 : ¬ f < 0 := by omega
  clear hr ht
  go_enter Try.func7, Try.ntmps7
  go_wp2_with fail
  refine C.mono ?_
  rintro r w1 ⟨rfl, rfl⟩
  go_wp2_with fail
  go_ret2
  exact ⟨rfl, rfl⟩

set_option maxHeartbeats 1000000 in
theorem midway_none (a : Option Addr) (n c : Nat) (l : Nat → Int) (f : Int) (h : n ≤ 64) (hf : 0 ≤ f) (hf2 : f ≤ 9223372036854775807) (w : World) (hr : R64 w a n l) (ht : allT l n = true) (hd : (n : Int) - f ≤ f) : Calls Try.prog 7 #[.slice a n c, .int .i64 f] w fun e w' => e = .returned (.tuple #[.int .i64 0, .int .i64 7]) ∧ w' = w := by
  have C := areTicks_any a n c l w h hr
  rw [ht] at C
  have z2 : ¬ (64 : Int) < (n : Int) := by omega
  have z3 : ¬ f < 0 := by omega
  clear hr ht
  go_enter Try.func7, Try.ntmps7
  go_wp2_with fail
  refine C.mono ?_
  rintro r w1 ⟨rfl, rfl⟩
  go_wp2_with fail
  go_ret2
  exact ⟨rfl, rfl⟩

set_option maxHeartbeats 2000000 in
theorem midway_ok (b off n c k : Nat) (l : Nat → Int) (x y : Int) (w : World) (hn : n ≤ 64) (hk : 2 * k < n) (hb : b < w.heap.size) (hl : ∀ t, t < n → w.cell? ⟨b, off + t, none⟩ = some (.int .i64 (l t))) (ht : allT l n = true) (hx : Nth l n k x) (hy : Nth l n (n - 1 - k) y) :
    Calls Try.prog 7 #[.slice (some ⟨b, off, none⟩) n c, .int .i64 k] w fun e w' => e = .returned (.tuple #[.int .i64 ((x + y) / 2), .int .i64 0]) ∧ Below w.heap.size w w' := by
  have C := areTicks_any (some ⟨b, off, none⟩) n c l w hn (fun _ => ⟨b, off, rfl, hb, hl⟩)
  rw [ht] at C
  have C2 := clone_some ⟨b, off, none⟩ n c l w (by omega) (fun j u hu => by
    obtain ⟨h1, rfl⟩ := vals_at hu
    rw [Nat.zero_add, Addr.add_lit]
    exact hl j h1) (fun _ => hb)
  obtain ⟨x1, x2⟩ := nth_tick hx ht
  obtain ⟨y1, y2⟩ := nth_tick hy ht
  have HX : Hid (Nth l n k x ∧ Nth l n (n - 1 - k) y) := ⟨hx, hy⟩
  have z2 : ¬ (64 : Int) < (n : Int) := by omega
  have z3 : ¬ (n : Int) - (k : Int) ≤ (k : Int) := by omega
  clear hl ht hx hy
  go_enter Try.func7, Try.ntmps7
  go_wp2_with fail
  refine C.mono ?_
  rintro r w1 ⟨rfl, rfl⟩
  clear C
  go_wp2_with fail
  refine C2.mono ?_
  rintro e w2 ⟨v, rfl, ho, hbel⟩
  obtain ⟨g, cap, rfl, hg1, hg2⟩ := ho.form (by omega)
  have HC : Hid (Cur w1.heap.size w1 g 0 n (arr l n) w2) := cur_of ho (by omega) hbel
  clear C2 ho hbel
  go_wp2_with fail
  refine (sort_any w1.heap.size w1 g 0 n cap (arr l n) w2 HC.out (by omega)).mono ?_
  rintro e w3 ⟨rfl, d', C3, P, S⟩
  have e1 := nth_one (nth_sorted P S k (by omega)) HX.out.1
  have e2 := nth_one (nth_sorted P S (n - 1 - k) (by omega)) HX.out.2
  have q0 := C3.cell k (by omega)
  have q1 := C3.cell (n - 1 - k) (by omega)
  rw [Nat.zero_add, e1] at q0
  rw [Nat.zero_add, e2] at q1
  have HB : Hid (Below w1.heap.size w1 w3) := C3.bel
  obtain ⟨p, hp⟩ : ∃ p : Nat, p = n - 1 - k := ⟨_, rfl⟩
  rw [← hp] at q1
  have z4 : (n : Int) - 1 - (k : Int) = (p : Int) := by omega
  have z5 : (p : Int) < (n : Int) := by omega
  have z6 : (k : Int) < (n : Int) := by omega
  clear hp P S C3 HC HX e1 e2
  go_wp2_with fail
  go_quiet ((go_at_call 17; exact (halfway_any _ _ (by assumption) (by assumption) (by assumption) (by assumption) _).mono fun _ _ h => ⟨h.1, _, h.2⟩))
  go_wp2_with fail
  go_ret2
  exact ⟨rfl, ⟨HB.out.os, HB.out.tape, HB.out.output, HB.out.size, HB.out.block⟩⟩

theorem midway_any (a : Option Addr) (n c : Nat) (l : Nat → Int) (f m E : Int) (f2 : f ≤ 9223372036854775807) (w : World) (hr : R64 w a n l) (hM : Mw l n f m E) :
    Calls Try.prog 7 #[.slice a n c, .int .i64 f] w fun e w' => e = .returned (.tuple #[.int .i64 m, .int .i64 E]) ∧ Below w.heap.size w w' := by
  have st : ∀ {v : Ending}, (Calls Try.prog 7 #[.slice a n c, .int .i64 f] w fun e w' => e = v ∧ w' = w) → Calls Try.prog 7 #[.slice a n c, .int .i64 f] w fun e w' => e = v ∧ Below w.heap.size w w' := fun h => h.mono fun _ _ q => ⟨q.1, by rw [q.2]; exact Below.refl _ _⟩
  rcases hM with ⟨h1, rfl, rfl⟩ | ⟨h1, h2, rfl, rfl⟩ | ⟨h1, h2, h3, h4, rfl, rfl⟩ | ⟨h1, h2, rfl, k, x, y, rfl, h3, hx, hy, rfl⟩
  · exact st (midway_large a n c f h1 w)
  · by_cases q : f < 0
    · exact st (midway_neg a n c f h1 q w)
    · exact st (midway_arg a n c l f h1 (by omega) w hr (h2.resolve_left q))
  · exact st (midway_none a n c l f h1 h2 f2 w hr h3 h4)
  · obtain ⟨b, off, rfl, hb, hl⟩ := hr (by omega)
    exact midway_ok b off n c k l x y w h1 h3 hb hl h2 hx hy

/-- what Adjust tells -/
def Ad (own : Int) (l : Nat → Int) (n : Nat) (f d E : Int) : Prop := (tkB own = false ∧ d = 0 ∧ E = 1) ∨ (tkB own = true ∧ ∃ m, Mw l n f m E ∧ ((E = 0 ∧ d = m - own) ∨ (¬ E = 0 ∧ d = 0)))
theorem ad_there (own : Int) (l : Nat → Int) (n : Nat) (f : Int) : ∃ d E, Ad own l n f d E := by
  cases e : tkB own
  · exact ⟨0, 1, Or.inl ⟨e, rfl, rfl⟩⟩
  · obtain ⟨m, E, h⟩ := mw_there l n f
    by_cases q : E = 0
    · exact ⟨m - own, E, Or.inr ⟨e, m, h, Or.inl ⟨q, rfl⟩⟩⟩
    · exact ⟨0, E, Or.inr ⟨e, m, h, Or.inr ⟨q, rfl⟩⟩⟩

set_option maxHeartbeats 1000000 in
theorem adjust_any (own : Int) (a : Option Addr) (n c : Nat) (l : Nat → Int) (f d E : Int) (f2 : f ≤ 9223372036854775807) (w : World) (hr : R64 w a n l) (hA : Ad own l n f d E) :
    Calls Try.prog 9 #[.int .i64 own, .slice a n c, .int .i64 f] w fun e w' => e = .returned (.tuple #[.int .i64 d, .int .i64 E]) ∧ Below w.heap.size w w' := by
  have C := isTick_any own w
  rcases hA with ⟨h1, rfl, rfl⟩ | ⟨h1, m, hM, h2⟩
  · rw [h1] at C
    clear h1 hr
    go_enter Try.func9, Try.ntmps9
    go_wp2_with fail
    refine C.mono ?_
    rintro r w1 ⟨rfl, rfl⟩
    go_wp2_with fail
    go_ret2
    exact ⟨rfl, Below.refl _ _⟩
  · have C2 := midway_any a n c l f m E f2 w hr hM
    obtain ⟨o1, o2⟩ := tkB_iff.1 h1
    obtain ⟨m1, m2⟩ := hM.bounds
    rw [h1] at C
    clear h1 hr hM
    rcases h2 with ⟨rfl, rfl⟩ | ⟨h2, rfl⟩
    · go_enter Try.func9, Try.ntmps9
      go_wp2_with fail
      refine C.mono ?_
      rintro r w1 ⟨rfl, rfl⟩
      clear C
      go_wp2_with fail
      refine C2.mono ?_
      rintro r w2 ⟨rfl, hb⟩
      have HB : Hid (Below w1.heap.size w1 w2) := hb
      clear C2 hb
      go_wp2_with fail
      go_ret2
      exact ⟨rfl, HB.out⟩
    · have q : (E != 0) = true := by simpa using h2
      clear h2
      go_enter Try.func9, Try.ntmps9
      go_wp2_with fail
      refine C.mono ?_
      rintro r w1 ⟨rfl, rfl⟩
      clear C
      go_wp2_with fail
      refine C2.mono ?_
      rintro r w2 ⟨rfl, hb⟩
      have HB : Hid (Below w1.heap.size w1 w2) := hb
      clear C2 hb
      go_wp2_with fail
      go_ret2
      exact ⟨rfl, HB.out⟩

end Go.Proofs.Ytdnjipikggehmaa
