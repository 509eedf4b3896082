/-
  Contracts of the document's answer to tables: what At answers; are two tables one?
-/
import Derived.Test.YtjbhmkdodcmhhaaRTab
import Derived.Test.YtjbhmkdodcmhhaaRTabErr
import Derived.Test.YtjbhmkdodcmhhaaEqual
namespace Go.Proofs.Ytjbhmkdodcmhhaa
open Go.RowKit

set_option maxRecDepth 10000 in
set_option maxHeartbeats 1000000 in
theorem rat_any (bX oX bY oY m cX cY : Nat) (X Y : Nat → Int) (x : Int) (w : World) (g : Good w bX oX bY oY (m + 1) X Y) (x1 : -2147483648 ≤ x) (x2 : x ≤ 2147483647) :
    Calls Try.prog 13 #[.agg #[.slice (some ⟨bX, oX, none⟩) (m + 1) cX, .slice (some ⟨bY, oY, none⟩) (m + 1) cY], .int .i32 x] w fun r w' => r = .returned (.int .i32 (atI X Y (m + 1) x)) ∧ Below w.heap.size w w' := by
  have G : Hid (Good w bX oX bY oY (m + 1) X Y) := g
  have h64 := g.most
  have HR : Hid (Rises X (m + 1)) := (risesB_iff X (m + 1)).1 g.rises
  have BX : Hid (bX < w.heap.size) := g.lX
  have c0 := fun o => g.hX.alloc g.lX o 0 (by omega)
  have d0 := fun o => g.hY.alloc g.lY o 0 (by omega)
  simp only [Nat.add_zero] at c0 d0
  clear g
  rcases at_cases (X := X) (n := m + 1) (by omega) x with h | h
  · go_enter Try.func13, Try.ntmps13
    go_wp2
    go_ret
    exact ⟨by rw [atI_low h]; rfl, (Below.refl _ _).alloc (Nat.le_refl _) _⟩
  · have f0 : X 0 ≤ x := by
      rcases h with ⟨h, _⟩ | ⟨k, hk, h, _⟩
      · exact h
      · have := rises_le HR.out (Nat.zero_le k) (by omega)
        omega
    clear h
    go_enter Try.func13, Try.ntmps13
    go_wp2
    go_loop [6] (fun i => ∃ k : Nat, k ≤ m ∧ i = .int .i64 k ∧ X k ≤ x) (fun i => m - (intOf i).toNat)
    case atStart => exact ⟨0, Nat.zero_le _, rfl, f0⟩
    case round =>
      obtain ⟨k, hk, rfl, hx⟩ := hrel
      have k0 : (k : Int) < (m : Int) + 1 := by omega
      by_cases hlt : k < m
      · have k1 : (k : Int) < (m : Int) := by omega
        have cX0 := fun o => G.out.hX.alloc G.out.lX o k (by omega)
        have cX1 := fun o => G.out.hX.alloc G.out.lX o (k + 1) (by omega)
        have cY0 := fun o => G.out.hY.alloc G.out.lY o k (by omega)
        have cY1 := fun o => G.out.hY.alloc G.out.lY o (k + 1) (by omega)
        rcases Int.lt_or_le x (X (k + 1)) with h | h
        · have iX0 := G.out.iX k
          have iX1 := G.out.iX (k + 1)
          have iY0 := G.out.iY k
          have iY1 := G.out.iY (k + 1)
          have A : Hid (atI X Y (m + 1) x = Y k + risenI (x - X k) (X (k + 1) - X k) (Y (k + 1) - Y k)) := atI_mid HR.out (by omega) hx h
          have bd := atI_in32 HR.out (by omega) G.out.iY x
          rw [A.out] at bd
          clear c0 d0
          go_wp2
          go_quiet ((go_at_call 20; exact (ratio_any _ _ _ _ (by omega) (by omega) (by omega) (by omega) (by omega) (by omega)).mono fun _ _ h => ⟨h.1, _, h.2⟩))
          go_wp2
          go_ret
          exact ⟨by rw [A.out]; rfl, below_drewN ((Below.refl _ _).alloc (Nat.le_refl _) _) _⟩
        · clear c0 d0
          go_wp2
          go_round
          case rel => exact ⟨k + 1, by omega, by go_num, h⟩
          case measure => simp [intOf]; omega
      · obtain rfl : k = m := by omega
        have cY0 := fun o => G.out.hY.alloc G.out.lY o k (by omega)
        have A : Hid (atI X Y (k + 1) x = Y k) := atI_last HR.out hx
        clear c0 d0
        go_wp2
        go_ret
        exact ⟨by rw [A.out]; rfl, (Below.refl _ _).alloc (Nat.le_refl _) _⟩

end Go.Proofs.Ytjbhmkdodcmhhaa
