/-
  Contracts of package table's own small functions: each returns what a plain function of whole numbers gives, and leaves memory as it was.
-/
import Derived.Test.YtiaolelkabbnmaaTabPlain
import Derived.Test.YtiaolelkabbnmaaSat
import Derived.Deep.QuietTactic
import Derived.BigQuiet
import Derived.Below
namespace Go.Proofs.Ytiaolelkabbnmaa
open Go.RowKit

/-- numbers of 32 bits that lie one behind another -/
def Row32 (w : World) (b off n : Nat) (l : Nat → Int) : Prop := ∀ j : Nat, j < n → w.cell? ⟨b, off + j, none⟩ = some (.int .i32 (l j))
def In32 (l : Nat → Int) : Prop := ∀ j : Nat, -2147483648 ≤ l j ∧ l j ≤ 2147483647

theorem mul_le2 {a b A B : Int} (a0 : 0 ≤ a) (a1 : a ≤ A) (b0 : 0 ≤ b) (b1 : b ≤ B) : 0 ≤ a * b ∧ a * b ≤ A * B :=
  ⟨Int.mul_nonneg a0 b0, Int.mul_le_mul a1 b1 b0 (by omega)⟩

theorem risen_neg (a c b : Int) (c0 : 0 < c) : risenI a c b = -(a * -b / c) - if a * -b % c = 0 then 0 else 1 := by
  unfold risenI
  have e : a * b = -(a * -b) := by rw [Int.mul_neg, Int.neg_neg]
  have h := Int.neg_ediv (a := a * -b) (b := c)
  rw [← e] at h
  rw [h, Int.sign_eq_one_of_pos c0]
  by_cases g : c ∣ a * -b
  · rw [if_pos g, if_pos (Int.emod_eq_zero_of_dvd g)]
  · rw [if_neg g, if_neg (fun x => g (Int.dvd_of_emod_eq_zero x))]

/-- behind a call that leaves all old memory as it was: all old cells, all old marks -/
theorem bcell {W w1 : World} (hb : Below W.heap.size W w1) : (∀ b o, b < W.heap.size → w1.cell? ⟨b, o, none⟩ = W.cell? ⟨b, o, none⟩) ∧ (∀ b o, b < W.heap.size → w1.frozen? ⟨b, o, none⟩ = W.frozen? ⟨b, o, none⟩) :=
  ⟨fun b o h => hb.cell (p := ⟨b, o, none⟩) h, fun b o h => hb.frozen (p := ⟨b, o, none⟩) h⟩
theorem Row32.below {w w' : World} {B b off n : Nat} {l : Nat → Int} (h : Row32 w b off n l) (hb : Below B w w') (hB : b < B) : Row32 w' b off n l :=
  fun j hj => (hb.cell (p := ⟨b, off + j, none⟩) hB).trans (h j hj)
theorem Row32.drewN {w : World} {b off n : Nat} {l : Nat → Int} (h : Row32 w b off n l) (d : Nat) : Row32 (w.drewN d) b off n l := h
theorem Row32.alloc {w : World} {b off n : Nat} {l : Nat → Int} (h : Row32 w b off n l) (hB : b < w.heap.size) (o : Obj) : Row32 (w.alloc o) b off n l :=
  h.below (B := w.heap.size) ((Below.refl _ _).alloc (Nat.le_refl _) o) hB

end Go.Proofs.Ytiaolelkabbnmaa
