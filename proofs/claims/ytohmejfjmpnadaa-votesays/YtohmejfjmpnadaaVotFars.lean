/-
  Who is far: vote.Far; slices.Equal of bools that are the same, slices.Contains where none is so.
-/
import Derived.Test.YtohmejfjmpnadaaVotFar
namespace Go.Proofs.Ytohmejfjmpnadaa
open Go.RowKit
set_option linter.unusedVariables false

/-- who is ok and farther than most from m -/
def farB (l : Nat → Int) (ok : Nat → Bool) (m most : Int) : Nat → Bool := fun t => ok t && decide (most < absI (l t - m))
theorem farB_yes {l : Nat → Int} {ok : Nat → Bool} {m most : Int} {t : Nat} (h : ok t = true) (h2 : most < absI (l t - m)) : farB l ok m most t = true := by unfold farB; rw [h, decide_eq_true h2]; rfl
theorem farB_near {l : Nat → Int} {ok : Nat → Bool} {m most : Int} {t : Nat} (h2 : ¬ most < absI (l t - m)) : farB l ok m most t = false := by unfold farB; rw [decide_eq_false h2, Bool.and_false]
theorem farB_not {l : Nat → Int} {ok : Nat → Bool} {m most : Int} {t : Nat} (h : ok t = false) : farB l ok m most t = false := by unfold farB; rw [h]; rfl
theorem farB_so {l : Nat → Int} {ok : Nat → Bool} {m most : Int} {t : Nat} (h : farB l ok m most t = true) : ok t = true ∧ most < absI (l t - m) := by
  unfold farB at h
  rw [Bool.and_eq_true] at h
  exact ⟨h.1, of_decide_eq_true h.2⟩
/-- the first j of n bools are told -/
structure Fr (w0 : World) (g n : Nat) (F : Nat → Bool) (j : Nat) (w : World) : Prop where
  low : w0.heap.size ≤ g
  row : w.rowIs g 4 n (fun k => .bool (if k < j then F k else false))
  bel : Below w0.heap.size w0 w
theorem Fr.cell {w0 : World} {g n : Nat} {F : Nat → Bool} {j : Nat} {w : World} (h : Fr w0 g n F j w) (hj : j < n) : w.cell? ⟨g, j, none⟩ = some (.bool false) := by
  have := h.row.cell hj
  rw [if_neg (by omega)] at this
  exact this
theorem Fr.store {w0 : World} {g n : Nat} {F : Nat → Bool} {j : Nat} {w : World} (h : Fr w0 g n F j w) {b : Bool} (hb : F j = b) : Fr w0 g n F (j + 1) (w.setCell ⟨g, j, none⟩ (.bool b)) := by
  refine ⟨h.low, (h.row.set j _).congr fun k hk => ?_, h.bel.setCell (p := ⟨g, j, none⟩) h.low _⟩
  by_cases e : k = j
  · subst e
    rw [if_pos rfl, if_pos (by omega), hb]
  · rw [if_neg e]
    by_cases q : k < j
    · rw [if_pos q, if_pos (by omega)]
    · rw [if_neg q, if_neg (by omega)]
theorem info_bool : (Try.prog.info? 4).map (fun i => (i.zero, i.size, i.bytes)) = some (some (.bool false), 1, 1) := by kernel_rfl

set_option maxHeartbeats 1000000 in
theorem far_bad (a oa : Option Addr) (n c k oc : Nat) (l : Nat → Int) (ok : Nat → Bool) (m E most : Int) (w : World) (h : R32 w a n l) (ho : RBo w oa k ok) (hM : MidS l n ok k m E) (h0 : E ≠ 0) :
    Calls Try.prog 11 #[.slice a n c, .slice oa k oc, .int .i32 most] w fun e w' => e = .returned (.tuple #[.slice none 0 0, .int .i64 E]) ∧ Below w.heap.size w w' := by
  have C := mid_any a oa n c k oc l ok m E w h ho hM
  have q : (E != 0) = true := by simpa using h0
  clear h ho hM h0
  go_enter Try.func11, Try.ntmps11
  go_wp2_with fail
  refine C.mono ?_
  rintro r w1 ⟨rfl, hb⟩
  have HB : Hid (Below w.heap.size w w1) := hb
  clear hb C
  go_wp2_with fail
  go_ret2
  exact ⟨rfl, HB.out⟩

set_option maxHeartbeats 1000000 in
theorem far_arg (a oa : Option Addr) (n c k oc : Nat) (l : Nat → Int) (ok : Nat → Bool) (m most : Int) (w : World) (h : R32 w a n l) (ho : RBo w oa k ok) (hM : MidS l n ok k m 0) (h0 : most < 0) :
    Calls Try.prog 11 #[.slice a n c, .slice oa k oc, .int .i32 most] w fun e w' => e = .returned (.tuple #[.slice none 0 0, .int .i64 1]) ∧ Below w.heap.size w w' := by
  have C := mid_any a oa n c k oc l ok m 0 w h ho hM
  clear h ho hM
  go_enter Try.func11, Try.ntmps11
  go_wp2_with fail
  refine C.mono ?_
  rintro r w1 ⟨rfl, hb⟩
  have HB : Hid (Below w.heap.size w w1) := hb
  clear hb C
  go_wp2_with fail
  go_ret2
  exact ⟨rfl, HB.out⟩

set_option maxHeartbeats 2000000 in
set_option maxRecDepth 100000 in
theorem far_ok (a oa : Option Addr) (n c oc : Nat) (l : Nat → Int) (ok : Nat → Bool) (m most : Int) (w : World) (hi : In32 l) (h : R32 w a n l) (ho : RBo w oa n ok) (hM : MidS l n ok n m 0) (h0 : 0 ≤ most) (h1 : most ≤ 2147483647) :
    Calls Try.prog 11 #[.slice a n c, .slice oa n oc, .int .i32 most] w fun e w' => ∃ g : Nat, e = .returned (.tuple #[.slice (some ⟨g, 0, none⟩) n n, .int .i64 0]) ∧ RBo w' (some ⟨g, 0, none⟩) n (farB l ok m most) ∧ Below w.heap.size w w' := by
  have C := mid_any a oa n c n oc l ok m 0 w h ho hM
  obtain ⟨hn, _, _, _, i0, hi0, _, e0⟩ := hM.good rfl
  obtain ⟨m1, m2⟩ := hi i0
  rw [e0] at m1 m2
  have HR : Hid (R32 w a n l) := h
  have HO : Hid (RBo w oa n ok) := ho
  have HI : Hid (In32 l) := hi
  have z0 : ¬ most < 0 := by omega
  clear h ho hM hi e0
  go_enter Try.func11, Try.ntmps11
  go_wp2_with fail
  refine C.mono ?_
  rintro r w1 ⟨rfl, hb⟩
  have HB : Hid (Below w.heap.size w w1) := hb
  have hmk := run_make_row' (P := Try.prog) 23 4 (.bool false) 1 Try.underlying23 info_bool rfl .i64 .i64 n (by omega) (by omega)
  have L0 : Hid (Fr w w1.heap.size n (farB l ok m most) 0 (w1.alloc (.cells (madeCells #[.bool false] n) 4))) := ⟨hb.size, (World.rowIs_made w1 (.bool false) n 4).congr fun k hk => by rw [if_neg (by omega)], hb.alloc hb.size _⟩
  clear hb C
  go_wp2_with fail
  clear hmk
  generalize w1.alloc (.cells (madeCells #[.bool false] n) 4) = W1 at L0 ⊢
  generalize w1.heap.size = g0 at L0 ⊢
  clear HB
  go_loopg [29] (n + 1) (fun g u wr => ∃ j : Nat, u = .int .i64 j ∧ n - j < g ∧ j ≤ n ∧ Hid (Fr w g0 n (farB l ok m most) j wr))
  case atStart => exact ⟨0, rfl, by omega, by omega, L0⟩
  case round =>
    obtain ⟨j, rfl, hg, hj, LJ⟩ := hrel
    clear L0
    by_cases hlt : j < n
    · have z1 : (j : Int) < (n : Int) := by omega
      obtain ⟨b, off, rfl, hb, hc⟩ := HR.out (by omega)
      obtain ⟨b2, off2, rfl, hb2, hc2⟩ := HO.out (by omega)
      have x0 := (LJ.out.bel.cell (p := ⟨b, off + j, none⟩) hb).trans (hc j hlt)
      have x1 := (LJ.out.bel.cell (p := ⟨b2, off2 + j, none⟩) hb2).trans (hc2 j hlt)
      have c0 := LJ.out.cell hlt
      have f0 := LJ.out.row.frozen j
      clear hc hc2
      cases e : ok j
      · have E1 : Hid (farB l ok m most j = false) := farB_not e
        rw [e] at x1
        clear e
        go_wp2_with fail
        go_roundg (n - (j + 1) + 1)
        case measure => omega
        case rel => exact ⟨j + 1, by go_num, by omega, by omega, LJ.out.store E1.out⟩
      · rw [e] at x1
        obtain ⟨a1, a2⟩ := HI.out j
        have CA := vapart_any (l j) m a1 a2 m1 m2
        by_cases hd : most < absI (l j - m)
        · have E1 : Hid (farB l ok m most j = true) := farB_yes e hd
          clear e
          generalize absI (l j - m) = D at hd CA
          generalize l j = y at x0 CA a1 a2
          go_wp2_with fail
          refine (CA _).mono ?_
          rintro r w3 ⟨rfl, rfl⟩
          clear CA
          go_wp2_with fail
          go_roundg (n - (j + 1) + 1)
          case measure => omega
          case rel => exact ⟨j + 1, by go_num, by omega, by omega, LJ.out.store E1.out⟩
        · have E1 : Hid (farB l ok m most j = decide (most < absI (l j - m))) := (farB_near hd).trans (decide_eq_false hd).symm
          clear e
          generalize absI (l j - m) = D at hd CA E1
          generalize l j = y at x0 CA a1 a2
          go_wp2_with fail
          refine (CA _).mono ?_
          rintro r w3 ⟨rfl, rfl⟩
          clear CA
          go_wp2_with fail
          go_roundg (n - (j + 1) + 1)
          case measure => omega
          case rel => exact ⟨j + 1, by go_num, by omega, by omega, LJ.out.store E1.out⟩
    · have z1 : ¬ (j : Int) < (n : Int) := by omega
      obtain rfl : j = n := by omega
      go_wp2_with fail
      go_ret2
      exact ⟨g0, rfl, fun hp => ⟨g0, 0, rfl, LJ.out.row.lt, fun k hk => by have := LJ.out.row.cell hk; rw [if_pos hk] at this; rw [Nat.zero_add]; exact this⟩, LJ.out.bel⟩

set_option maxHeartbeats 1000000 in
theorem equalB_same (a1 a2 : Option Addr) (n c1 c2 : Nat) (F : Nat → Bool) (w : World) (hn : n ≤ 64) (h1 : RBo w a1 n F) (h2 : RBo w a2 n F) :
    Calls Try.prog 17 #[.slice a1 n c1, .slice a2 n c2] w fun e w' => e = .returned (.bool true) ∧ ∃ d, w' = w.drewN d := by
  have H1 : Hid (RBo w a1 n F) := h1
  have H2 : Hid (RBo w a2 n F) := h2
  clear h1 h2
  go_enter Try.func17, Try.ntmps17
  go_wp2
  go_loopg [13] (n + 1) (fun g u wr => ∃ j d : Nat, u = .int .i64 j ∧ n - j < g ∧ j ≤ n ∧ wr = w.drewN d)
  case atStart => exact ⟨0, 0, rfl, by omega, by omega, rfl⟩
  case round =>
    obtain ⟨j, d, rfl, hg, hj, rfl⟩ := hrel
    by_cases hlt : j < n
    · have z1 : (j : Int) < (n : Int) := by omega
      obtain ⟨b, off, rfl, hb, hc⟩ := H1.out (by omega)
      obtain ⟨b2, off2, rfl, hb2, hc2⟩ := H2.out (by omega)
      have x0 := hc j hlt
      have x1 := hc2 j hlt
      clear hc hc2
      cases e : F j
      · rw [e] at x0 x1
        clear e
        go_wp2
        go_quiet (fail)
        go_wp2
        go_roundg (n - (j + 1) + 1)
        case measure => omega
        case rel => exact ⟨j + 1, _, by go_num, by omega, by omega, rfl⟩
      · rw [e] at x0 x1
        clear e
        go_wp2
        go_quiet (fail)
        go_wp2
        go_roundg (n - (j + 1) + 1)
        case measure => omega
        case rel => exact ⟨j + 1, _, by go_num, by omega, by omega, rfl⟩
    · have z1 : ¬ (j : Int) < (n : Int) := by omega
      go_wp2
      go_ret
      exact ⟨rfl, d, rfl⟩

set_option maxHeartbeats 1000000 in
theorem indexB_no (a : Option Addr) (n c : Nat) (F : Nat → Bool) (w : World) (hn : n ≤ 64) (h : RBo w a n F) (hF : ∀ j, j < n → F j = false) :
    Calls Try.prog 30 #[.slice a n c, .bool true] w fun e w' => e = .returned (.int .i64 (-1)) ∧ w' = w := by
  have H1 : Hid (RBo w a n F) := h
  have HF : Hid (∀ j, j < n → F j = false) := hF
  clear h hF
  go_enter Try.func30, Try.ntmps30
  go_wp2_with fail
  go_loopg [8] (n + 1) (fun g u wr => ∃ j : Nat, u = .int .i64 j ∧ n - j < g ∧ j ≤ n ∧ wr = w)
  case atStart => exact ⟨0, rfl, by omega, by omega, rfl⟩
  case round =>
    obtain ⟨j, rfl, hg, hj, rfl⟩ := hrel
    by_cases hlt : j < n
    · have z1 : (j : Int) < (n : Int) := by omega
      obtain ⟨b, off, rfl, hb, hc⟩ := H1.out (by omega)
      have x0 := hc j hlt
      rw [HF.out j hlt] at x0
      clear hc
      go_wp2_with fail
      go_roundg (n - (j + 1) + 1)
      case measure => omega
      case rel => exact ⟨j + 1, by go_num, by omega, by omega, rfl⟩
    · have z1 : ¬ (j : Int) < (n : Int) := by omega
      go_wp2_with fail
      go_ret
      exact ⟨rfl, rfl⟩

set_option maxHeartbeats 1000000 in
theorem containsB_no (a : Option Addr) (n c : Nat) (F : Nat → Bool) (w : World) (hn : n ≤ 64) (h : RBo w a n F) (hF : ∀ j, j < n → F j = false) :
    Calls Try.prog 19 #[.slice a n c, .bool true] w fun e w' => e = .returned (.bool false) ∧ w' = w := by
  have C := indexB_no a n c F w hn h hF
  clear h hF
  go_enter Try.func19, Try.ntmps19
  go_wp2_with fail
  refine C.mono ?_
  rintro e w1 ⟨rfl, rfl⟩
  go_wp2_with fail
  go_ret
  exact ⟨rfl, rfl⟩

end Go.Proofs.Ytohmejfjmpnadaa
