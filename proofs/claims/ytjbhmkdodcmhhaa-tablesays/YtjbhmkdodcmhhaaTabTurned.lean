/-
  Plain mathematics of a table turned round: it rises, it tells the same of the number with its sign turned, and turned again it is as it was.
-/
import Derived.Test.YtjbhmkdodcmhhaaTabTurn
import Derived.Test.YtjbhmkdodcmhhaaTabCases
import Derived.Test.YtjbhmkdodcmhhaaEqual
namespace Go.Proofs.Ytjbhmkdodcmhhaa
open Go.RowKit

def turnX (X : Nat → Int) (n j : Nat) : Int := -X (n - 1 - j)
def turnY (Y : Nat → Int) (n j : Nat) : Int := Y (n - 1 - j)
theorem turn_rises {X : Nat → Int} {n : Nat} (h : Rises X n) : Rises (turnX X n) n := by
  intro k hk
  have := rises_lt h (show n - 1 - (k + 1) < n - 1 - k by omega) (by omega)
  show -X (n - 1 - k) < -X (n - 1 - (k + 1))
  omega
theorem turn_back {X : Nat → Int} {n : Nat} (k : Nat) (hk : k < n) : turnX (turnX X n) n k = X k := by
  show - -X (n - 1 - (n - 1 - k)) = X k
  rw [show n - 1 - (n - 1 - k) = k by omega]
  omega
theorem turn_backY {Y : Nat → Int} {n : Nat} (k : Nat) (hk : k < n) : turnY (turnY Y n) n k = Y k := by
  show Y (n - 1 - (n - 1 - k)) = Y k
  rw [show n - 1 - (n - 1 - k) = k by omega]
theorem risen_turn {f run rise : Int} (hr : 0 < run) : rise + risenI (run - f) run (-rise) = risenI f run rise := by
  unfold risenI
  have e : (run - f) * -rise = f * rise + run * -rise := by
    rw [Int.sub_mul, Int.mul_neg, Int.mul_neg]
    omega
  rw [e, Int.add_mul_ediv_left _ _ (show run ≠ 0 by omega)]
  omega
theorem atI_turn {X Y : Nat → Int} {m : Nat} (h : Rises X (m + 1)) (x : Int) : atI (turnX X (m + 1)) (turnY Y (m + 1)) (m + 1) (-x) = atI X Y (m + 1) x := by
  have ht := turn_rises h
  have x0 : turnX X (m + 1) 0 = -X m := rfl
  have xm : turnX X (m + 1) m = -X 0 := by show -X (m + 1 - 1 - m) = -X 0; rw [show m + 1 - 1 - m = 0 by omega]
  rcases at_cases (X := X) (n := m + 1) (by omega) x with g | ⟨g, g'⟩ | ⟨k, hk, g, g'⟩
  · rw [atI_low g, atI_last ht (by omega)]
    show Y (m + 1 - 1 - m) = Y 0
    rw [show m + 1 - 1 - m = 0 by omega]
  · have g2 : X m ≤ x := by simpa using g'
    rw [atI_last h g2, atI_first ht (by omega) (by omega)]
    rfl
  · have j1 : turnX X (m + 1) (m - 1 - k) = -X (k + 1) := by show -X (m + 1 - 1 - (m - 1 - k)) = _; rw [show m + 1 - 1 - (m - 1 - k) = k + 1 by omega]
    have j2 : turnX X (m + 1) (m - 1 - k + 1) = -X k := by show -X (m + 1 - 1 - (m - 1 - k + 1)) = _; rw [show m + 1 - 1 - (m - 1 - k + 1) = k by omega]
    have y1 : turnY Y (m + 1) (m - 1 - k) = Y (k + 1) := by show Y (m + 1 - 1 - (m - 1 - k)) = _; rw [show m + 1 - 1 - (m - 1 - k) = k + 1 by omega]
    have y2 : turnY Y (m + 1) (m - 1 - k + 1) = Y k := by show Y (m + 1 - 1 - (m - 1 - k + 1)) = _; rw [show m + 1 - 1 - (m - 1 - k + 1) = k by omega]
    have s := h k hk
    by_cases e : x = X k
    · rw [e, atI_knot h (by omega), ← j2, atI_knot ht (by omega), y2]
    · rw [atI_mid h hk g g', atI_mid (k := m - 1 - k) ht (by omega) (by omega) (by omega)]
      unfold lineI
      rw [j1, j2, y1, y2]
      have r := risen_turn (f := x - X k) (run := X (k + 1) - X k) (rise := Y (k + 1) - Y k) (by omega)
      rw [show X (k + 1) - X k - (x - X k) = -x - -X (k + 1) by omega, show -(Y (k + 1) - Y k) = Y k - Y (k + 1) by omega] at r
      rw [show -X k - -X (k + 1) = X (k + 1) - X k by omega, ← r]
      omega
theorem row32_of {w : World} {g n : Nat} {t : TypeId} {l : Nat → Int} (h : w.rowIs g t n (fun j => .int .i32 (l j))) : Row32 w g 0 n l := fun j hj => by
  rw [Nat.zero_add]
  exact h.cell hj
theorem good_turn {w w' : World} {bX oX bY oY n g1 g2 : Nat} {X Y : Nat → Int} {t : TypeId} (g : Good w bX oX bY oY n X Y) (h0 : X 0 ≠ -2147483648) (r1 : w'.rowIs g1 t n (fun j => .int .i32 (-X (n - 1 - j)))) (r2 : w'.rowIs g2 t n (fun j => .int .i32 (Y (n - 1 - j)))) :
    Good w' g1 0 g2 0 n (turnX X n) (turnY Y n) where
  most := g.most
  pos := g.pos
  iX := fun j => by
    have a := rises_le ((risesB_iff X n).1 g.rises) (Nat.zero_le (n - 1 - j)) (by have := g.pos; omega)
    have b := g.iX (n - 1 - j)
    have c := g.iX 0
    show -2147483648 ≤ -X (n - 1 - j) ∧ -X (n - 1 - j) ≤ 2147483647
    omega
  iY := fun j => g.iY _
  lX := r1.lt
  lY := r2.lt
  hX := row32_of r1
  hY := row32_of r2
  rises := (risesB_iff _ _).2 (turn_rises ((risesB_iff X n).1 g.rises))
theorem turn_first {X : Nat → Int} {n : Nat} (iX : In32 X) : turnX X n 0 ≠ -2147483648 := by
  have := iX (n - 1 - 0)
  show -X (n - 1 - 0) ≠ -2147483648
  omega

end Go.Proofs.Ytjbhmkdodcmhhaa
