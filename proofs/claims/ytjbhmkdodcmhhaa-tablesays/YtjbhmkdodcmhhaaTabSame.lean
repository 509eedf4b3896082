/-
  A table as it comes in, for both answers; contract of the verifier's SameTable.
-/
import Derived.Test.YtjbhmkdodcmhhaaRTabAt
namespace Go.Proofs.Ytjbhmkdodcmhhaa
open Go.RowKit

/-- whatever else there is in memory: the document answers e of this table -/
def RErr (w : World) (aX aY : Option Addr) (nX cX nY cY : Nat) (e : Int) : Prop :=
  ∀ w1 : World, Below w.heap.size w w1 → Calls Try.prog 7 #[.agg #[.slice aX nX cX, .slice aY nY cY]] w1 fun r w2 => r = .returned (.int .i64 e) ∧ Below w1.heap.size w1 w2
theorem RErr.below {w w' : World} {aX aY : Option Addr} {nX cX nY cY : Nat} {e : Int} (h : RErr w aX aY nX cX nY cY e) (hb : Below w.heap.size w w') : RErr w' aX aY nX cX nY cY e :=
  fun w1 h1 => h w1 (hb.trans (h1.mono hb.size))
theorem Good.rerr {w : World} {bX oX bY oY n : Nat} {X Y : Nat → Int} (h : Good w bX oX bY oY n X Y) (cX cY : Nat) : RErr w (some ⟨bX, oX, none⟩) (some ⟨bY, oY, none⟩) n cX n cY 0 := by
  intro w1 hb
  have g := h.below hb
  exact rerr_row bX oX (some ⟨bY, oY, none⟩) n cX cY X w1 g.most g.pos g.lX g.hX 0 (.inl ⟨g.rises, rfl⟩)
theorem Good.rback {w : World} {bX oX bY oY n : Nat} {X Y : Nat → Int} (h : Good w bX oX bY oY n X Y) (hY : risesB Y n = false) (cX cY : Nat) : RErr w (some ⟨bY, oY, none⟩) (some ⟨bX, oX, none⟩) n cY n cX 4 := by
  intro w1 hb
  have g := h.below hb
  exact rerr_row bY oY (some ⟨bX, oX, none⟩) n cY cX Y w1 g.most g.pos g.lY g.hY 4 (.inr ⟨hY, rfl⟩)

theorem table_cases2 {w : World} {aX aY : Option Addr} {nX cX nY cY : Nat} {X Y : Nat → Int} (hX : RowK .i32 w aX nX cX X) (hY : RowK .i32 w aY nY cY Y) :
    (∃ e : Int, e ≠ 0 ∧ Chk w aX aY nX cX nY cY e ∧ RErr w aX aY nX cX nY cY e) ∨ ∃ bX oX bY oY, aX = some ⟨bX, oX, none⟩ ∧ aY = some ⟨bY, oY, none⟩ ∧ nY = nX ∧ Good w bX oX bY oY nX X Y := by
  obtain ⟨lx, mx, wx, rx⟩ := hX
  obtain ⟨ly, my, wy, ry⟩ := hY
  unfold maxLen at mx my
  by_cases h1 : 64 < nX
  · exact .inl ⟨2, by omega, fun w1 _ => check_large aX aY nX cX nY cY w1 h1 (by omega), fun w1 _ => rerr_large aX aY nX cX nY cY w1 h1 (by omega)⟩
  by_cases h2 : nX = 0
  · subst h2
    exact .inl ⟨4, by omega, fun w1 _ => check_none aX aY cX nY cY w1, fun w1 _ => rerr_none aX aY cX nY cY w1⟩
  have hp := Nat.pos_of_ne_zero h2
  by_cases h3 : nY = nX
  · subst h3
    obtain ⟨bX, oX, rfl, bx, hx⟩ := rx hp
    obtain ⟨bY, oY, rfl, by', hy⟩ := ry hp
    clear rx ry
    by_cases h4 : risesB X nY = true
    · exact .inr ⟨bX, oX, bY, oY, rfl, rfl, rfl, by omega, by omega, in32_of wx, in32_of wy, bx, by', hx, hy, h4⟩
    · refine .inl ⟨4, by omega, fun w1 hb => ?_, fun w1 hb => ?_⟩
      · have c := check_row bX oX (some ⟨bY, oY, none⟩) nY cX cY X w1 (by omega) hp (Nat.lt_of_lt_of_le bx hb.size) (Row32.below hx hb bx)
        rw [if_neg h4] at c
        exact c
      · exact rerr_row bX oX (some ⟨bY, oY, none⟩) nY cX cY X w1 (by omega) hp (Nat.lt_of_lt_of_le bx hb.size) (Row32.below hx hb bx) 4 (.inr ⟨by simpa using h4, rfl⟩)
  · exact .inl ⟨4, by omega, fun w1 _ => check_apart aX aY nX cX nY cY w1 (by omega) hp h3, fun w1 _ => rerr_apart aX aY nX cX nY cY w1 (by omega) hp h3⟩

set_option maxHeartbeats 400000 in
theorem same_zero (w : World) :
    Calls Try.prog 12 #[.agg #[.slice none 0 0, .slice none 0 0], .agg #[.slice none 0 0, .slice none 0 0]] w fun e w' => e = .returned (.bool true) ∧ Below w.heap.size w w' := by
  go_enter Try.func12, Try.ntmps12
  go_wp2_with (go_at_call 15; refine (equal_none _ _ _ _ _).mono ?_; rintro e w' ⟨rfl, d, rfl⟩)
  go_ret
  exact ⟨rfl, below_drewN (((Below.refl _ _).alloc (Nat.le_refl _) _).alloc (by simp) _) _⟩

set_option maxHeartbeats 400000 in
theorem same_rows (b1 b2 b3 b4 n c1 c2 c3 c4 : Nat) (l1 l2 l3 l4 : Nat → Int) (w : World) (hn : n ≤ 64) (g1 : b1 < w.heap.size) (g2 : b2 < w.heap.size) (g3 : b3 < w.heap.size) (g4 : b4 < w.heap.size)
    (h1 : Row32 w b1 0 n l1) (h2 : Row32 w b2 0 n l2) (h3 : Row32 w b3 0 n l3) (h4 : Row32 w b4 0 n l4) (e1 : ∀ k : Nat, k < n → l1 k = l3 k) (e2 : ∀ k : Nat, k < n → l2 k = l4 k) :
    Calls Try.prog 12 #[.agg #[.slice (some ⟨b1, 0, none⟩) n c1, .slice (some ⟨b2, 0, none⟩) n c2], .agg #[.slice (some ⟨b3, 0, none⟩) n c3, .slice (some ⟨b4, 0, none⟩) n c4]] w fun e w' => e = .returned (.bool true) ∧ Below w.heap.size w w' := by
  have q1 : eqB l1 l3 n = true := (eqB_iff _ _ _).2 e1
  have q2 : eqB l2 l4 n = true := (eqB_iff _ _ _).2 e2
  have R1 := fun o o' => Row32.alloc (Row32.alloc h1 g1 o) (by simp; omega) o'
  have R2 := fun o o' => Row32.alloc (Row32.alloc h2 g2 o) (by simp; omega) o'
  have R3 := fun o o' => Row32.alloc (Row32.alloc h3 g3 o) (by simp; omega) o'
  have R4 := fun o o' => Row32.alloc (Row32.alloc h4 g4 o) (by simp; omega) o'
  clear h1 h2 h3 h4 e1 e2
  go_enter Try.func12, Try.ntmps12
  go_wp2_with fail
  refine (equal_any b1 0 b3 0 n c1 c3 l1 l3 _ (by omega) (R1 _ _) (R3 _ _)).mono ?_
  rintro e w' ⟨rfl, d, rfl⟩
  rw [q1]
  go_wp2_with fail
  refine (equal_any b2 0 b4 0 n c2 c4 l2 l4 _ (by omega) ((R2 _ _).drewN d) ((R4 _ _).drewN d)).mono ?_
  rintro e w' ⟨rfl, d', rfl⟩
  rw [q2]
  go_wp2
  go_ret
  exact ⟨rfl, below_drewN (((Below.refl _ _).alloc (Nat.le_refl _) _).alloc (by simp) _) _⟩

end Go.Proofs.Ytjbhmkdodcmhhaa
