/-
  Contract of the document's answer to tables: TableErr answers just what Check does.
-/
import Derived.Test.YtjbhmkdodcmhhaaTabCases
namespace Go.Proofs.Ytjbhmkdodcmhhaa
open Go.RowKit

theorem risesB_falls {X : Nat → Int} {k : Nat} (h : risesB X k = false) : risesB X (k + 1) = false := by
  rw [Bool.eq_false_iff] at h ⊢
  intro h'
  exact h ((risesB_iff X k).2 (fun m hm => (risesB_iff X (k + 1)).1 h' m (by omega)))
theorem risesB_one {X : Nat → Int} : risesB X 0 = true ∧ risesB X 1 = true := ⟨rfl, rfl⟩
theorem risesB_next {X : Nat → Int} {s : Nat} (h : risesB X (s + 1) = true) (g : X s < X (s + 1)) : risesB X (s + 1 + 1) = true := by
  rw [risesB_iff] at h ⊢
  intro m hm
  by_cases e : m = s
  · subst e; exact g
  · exact h m (by omega)

set_option maxHeartbeats 400000 in
theorem rerr_large (aX aY : Option Addr) (nX cX nY cY : Nat) (w : World) (h : 64 < nX) (h' : nX ≤ 9223372036854775807) :
    Calls Try.prog 7 #[.agg #[.slice aX nX cX, .slice aY nY cY]] w fun e w' => e = .returned (.int .i64 2) ∧ Below w.heap.size w w' := by
  go_enter Try.func7, Try.ntmps7
  go_wp2
  go_ret
  exact ⟨rfl, (Below.refl _ _).alloc (Nat.le_refl _) _⟩

set_option maxHeartbeats 400000 in
theorem rerr_none (aX aY : Option Addr) (cX nY cY : Nat) (w : World) :
    Calls Try.prog 7 #[.agg #[.slice aX 0 cX, .slice aY nY cY]] w fun e w' => e = .returned (.int .i64 4) ∧ Below w.heap.size w w' := by
  go_enter Try.func7, Try.ntmps7
  go_wp2
  refine wp_loop_rounds 1 ?_
  rw [rounds_succ]
  go_wp2
  go_ret
  exact ⟨rfl, (Below.refl _ _).alloc (Nat.le_refl _) _⟩

set_option maxHeartbeats 400000 in
theorem rerr_apart (aX aY : Option Addr) (nX cX nY cY : Nat) (w : World) (h : nX ≤ 64) (h0 : 0 < nX) (h1 : nY ≠ nX) :
    Calls Try.prog 7 #[.agg #[.slice aX nX cX, .slice aY nY cY]] w fun e w' => e = .returned (.int .i64 4) ∧ Below w.heap.size w w' := by
  have q0 : ((nX : Int) == 0) = false := by simp; omega
  have q1 : ((nX : Int) != (nY : Int)) = true := by simp; omega
  go_enter Try.func7, Try.ntmps7
  go_wp2
  go_loopw [3, 25] (fun b i wr => ∃ k : Nat, k ≤ nX ∧ i = .int .i64 k ∧ b = .bool true ∧ Below w.heap.size w wr) (fun _ i _ => nX - (intOf i).toNat)
  case atStart => exact ⟨0, Nat.zero_le _, rfl, rfl, (Below.refl _ _).alloc (Nat.le_refl _) _⟩
  case round =>
    obtain ⟨k, hk, rfl, rfl, B⟩ := hrel
    have HB : Hid (Below w.heap.size w wr) := B
    clear B
    by_cases hlt : k < nX
    · go_wp2
      go_quiet (fail)
      go_wp2
      go_roundw
      case rel => exact ⟨k + 1, by omega, by go_num, rfl, below_drewN HB.out _⟩
      case measure => simp [intOf]; omega
    · go_wp2
      go_ret
      exact ⟨rfl, HB.out⟩

set_option maxHeartbeats 1000000 in
theorem rerr_row (b off : Nat) (aY : Option Addr) (n cX cY : Nat) (X : Nat → Int) (w : World) (h : n ≤ 64) (h0 : 0 < n) (hb : b < w.heap.size) (hX : Row32 w b off n X) (E : Int) (hE : risesB X n = true ∧ E = 0 ∨ risesB X n = false ∧ E = 4) :
    Calls Try.prog 7 #[.agg #[.slice (some ⟨b, off, none⟩) n cX, .slice aY n cY]] w fun e w' => e = .returned (.int .i64 E) ∧ Below w.heap.size w w' := by
  have HX : Hid (Row32 w b off n X) := hX
  have HE : Hid (risesB X n = true ∧ E = 0 ∨ risesB X n = false ∧ E = 4) := hE
  clear hE
  have q0 : ((n : Int) == 0) = false := by simp; omega
  clear hX
  go_enter Try.func7, Try.ntmps7
  go_wp2
  go_loopw [3, 25] (fun bad i wr => ∃ (k : Nat) (B : Bool), k ≤ n ∧ i = .int .i64 k ∧ bad = .bool B ∧ risesB X k = !B ∧ Below w.heap.size w wr ∧ wr.cell? ⟨w.heap.size, 0, none⟩ = some (.slice (some ⟨b, off, none⟩) n cX)) (fun _ i _ => n - (intOf i).toNat)
  case atStart => exact ⟨0, false, Nat.zero_le _, rfl, rfl, rfl, (Below.refl _ _).alloc (Nat.le_refl _) _, by go_simp⟩
  case round =>
    obtain ⟨k, B, hk, rfl, rfl, hr, hB, c0⟩ := hrel
    have HB : Hid (Below w.heap.size w wr) := hB
    clear hB
    by_cases hlt : k < n
    · rcases B with _ | _
      rotate_left
      · have R : Hid (risesB X (k + 1) = false) := risesB_falls hr
        clear hr
        go_wp2
        go_quiet (fail)
        go_wp2
        go_roundw
        case rel => exact ⟨k + 1, true, by omega, by go_num, rfl, R.out, below_drewN HB.out _, c0⟩
        case measure => simp [intOf]; omega
      · cases k with
        | zero =>
          clear hr
          go_wp2
          go_quiet (fail)
          go_wp2
          go_roundw
          case rel => exact ⟨1, false, by omega, rfl, rfl, rfl, below_drewN HB.out _, c0⟩
          case measure => simp [intOf]; omega
        | succ s =>
          have x0 := (HX.out.below HB.out hb) s (by omega)
          have x1 := (HX.out.below HB.out hb) (s + 1) hlt
          have s0 : (s : Int) < (n : Int) := by omega
          have s1 : (s : Int) + 1 < (n : Int) := by omega
          rcases Int.lt_or_le (X s) (X (s + 1)) with g | g
          · have q : decide (X (s + 1) ≤ X s) = false := by simp; omega
            have R : Hid (risesB X (s + 1 + 1) = true) := risesB_next hr g
            clear hr
            go_wp2
            go_quiet (fail)
            go_wp2
            go_roundw
            case rel => exact ⟨s + 1 + 1, false, by omega, by go_num, rfl, R.out, below_drewN HB.out _, c0⟩
            case measure => simp [intOf]; omega
          · have R : Hid (risesB X (s + 1 + 1) = false) := risesB_no s (by omega) g
            clear hr
            go_wp2
            go_quiet (fail)
            go_wp2
            go_roundw
            case rel => exact ⟨s + 1 + 1, true, by omega, by go_num, rfl, R.out, below_drewN HB.out _, c0⟩
            case measure => simp [intOf]; omega
    · obtain rfl : k = n := by omega
      rcases B with _ | _
      · obtain rfl : E = 0 := by
          rcases HE.out with ⟨_, e⟩ | ⟨e, _⟩
          · exact e
          · rw [hr] at e; cases e
        clear hlt hr
        go_wp2
        go_ret
        exact ⟨rfl, HB.out⟩
      · obtain rfl : E = 4 := by
          rcases HE.out with ⟨e, _⟩ | ⟨_, e⟩
          · rw [hr] at e; cases e
          · exact e
        clear hlt hr
        go_wp2
        go_ret
        exact ⟨rfl, HB.out⟩

end Go.Proofs.Ytjbhmkdodcmhhaa
