/-
  The function that the law StrokeStuck makes (is a point too far from where the ram is?), and slices.IndexFunc of it.
-/
import Derived.Test.YtihcioghbidblaaStk
import Derived.Test.YtihcioghbidblaaKeep
import Derived.Test.YtihcioghbidblaaOpenP
namespace Go.Proofs.Ytihcioghbidblaa
open Go.RowKit
set_option linter.unusedVariables false

theorem faP_abs (p : Int) (c : Pt) : faP p c = decide (c.d < absI (p - c.w)) := by
  unfold faP absI
  congr 1
  split <;> (apply propext; omega)

set_option maxHeartbeats 1000000 in
theorem stuckFar_any (B : Nat) (p : Int) (c : Pt) (w : World) (hB : w.cell? ⟨B, 4, none⟩ = some (.int .i32 p)) (hp : I32 p) (hw : I32 c.w) (hd : I32 c.d) :
    Calls Try.prog 12 #[.agg #[.int .i32 c.w, .int .i64 c.f, .int .i32 c.d], .pointer (some ⟨B, 0, none⟩)] w fun e w' => e = .returned (.bool (faP p c)) ∧ Below w.heap.size w w' := by
  have C : Hid (∀ W, Calls Try.prog 13 #[.int .i32 p, .int .i32 c.w] W fun e w' => e = .returned (.int .i64 (absI (p - c.w))) ∧ w' = W) := fun W => apart_any _ _ hp.1 hp.2 hw.1 hw.2 W
  rw [faP_abs]
  generalize absI (p - c.w) = M at *
  obtain ⟨d1, d2⟩ := hd
  have lB := lt_of_cell hB
  clear hp hw
  go_enter Try.func12, Try.ntmps12
  go_wp2_with fail
  go_quiet (first | (go_at_call 13; exact Calls.quiet_of_same (C.out _)))
  go_wp2_with fail
  go_ret
  exact ⟨rfl, below_drewN (one_box _ _) _⟩

/-- the number of the first one of which F holds, or -1 -/
def ixP (F : Nat → Bool) (n : Nat) : Int := if fiB F n < n then (fiB F n : Nat) else -1
theorem ixP_at {F : Nat → Bool} {n j : Nat} (h : ∀ i, i < j → F i = false) (hj : F j = true) (hn : j < n) : ixP F n = j := by
  unfold ixP
  rw [fiB_at h hj hn, if_pos hn]
theorem ixP_none {F : Nat → Bool} {n : Nat} (h : ∀ i, i < n → F i = false) : ixP F n = -1 := by
  unfold ixP
  rw [fiB_none h, if_neg (by omega)]

set_option maxHeartbeats 2000000 in
set_option maxRecDepth 100000 in
theorem indexP_any (a : Option Addr) (n c : Nat) (l : Nat → Pt) (F : Nat → Bool) (B : Nat) (w : World) (h : RowP w a n l) (hn : n ≤ 16)
    (C : Hid (∀ j W, j < n → Below w.heap.size w W → Calls Try.prog 12 #[.agg #[.int .i32 (l j).w, .int .i64 (l j).f, .int .i32 (l j).d], .pointer (some ⟨B, 0, none⟩)] W fun e w' => e = .returned (.bool (F j)) ∧ Below W.heap.size W w')) :
    Calls Try.prog 11 #[.slice a n c, .func (.func 12) #[] #[.pointer (some ⟨B, 0, none⟩)]] w fun e w' => e = .returned (.int .i64 (ixP F n)) ∧ Below w.heap.size w w' := by
  have HR : Hid (RowP w a n l) := h
  clear h
  go_enter Try.func11, Try.ntmps11
  go_wp2_with fail
  go_loopg [8] (n + 1) (fun g u wr => ∃ q : Nat, u = .int .i64 q ∧ n - q < g ∧ q ≤ n ∧ Hid (∀ i, i < q → F i = false) ∧ Hid (Below w.heap.size w wr))
  case atStart => exact ⟨0, rfl, by omega, by omega, fun i hi => absurd hi (by omega), Below.refl _ _⟩
  case round =>
    obtain ⟨q, rfl, hg, hq, HM, HB⟩ := hrel
    by_cases hlt : q < n
    · have z1 : (q : Int) < (n : Int) := by omega
      have HQ : Hid (RowP wr a n l) := HR.out.step HB.out
      obtain ⟨b, o, rfl, hb, hc⟩ := HQ.out (by omega)
      obtain ⟨x0, x1, x2⟩ := hc q hlt
      clear hc
      go_wp2_with fail
      go_at_call 12
      refine (C.out q _ hlt HB.out).mono ?_
      rintro e w2 ⟨rfl, hb2⟩
      have B2 : Hid (Below w.heap.size w w2) := HB.out.trans (hb2.mono HB.out.size)
      clear hb2 x0 x1 x2
      rcases hF : F q with _ | _
      · have HM2 : Hid (∀ i, i < q + 1 → F i = false) := fun i hi => by
          by_cases e : i < q
          · exact HM.out i e
          · obtain rfl : i = q := by omega
            exact hF
        clear hF
        go_wp2_with fail
        go_roundg (n - (q + 1) + 1)
        case measure => omega
        case rel => exact ⟨q + 1, by go_num, by omega, by omega, HM2, B2⟩
      · have K : Hid (ixP F n = q) := ixP_at HM.out hF hlt
        clear hF
        go_wp2_with fail
        go_ret
        exact ⟨by rw [K.out]; rfl, B2.out⟩
    · have z1 : ¬ (q : Int) < (n : Int) := by omega
      obtain rfl : q = n := by omega
      have K : Hid (ixP F q = -1) := ixP_none HM.out
      go_wp2_with fail
      go_ret
      exact ⟨by rw [K.out]; rfl, HB.out⟩

end Go.Proofs.Ytihcioghbidblaa
