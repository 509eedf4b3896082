/-
  Contract of the document's modesRight (package steadref): is each mode one of the four?
-/
import Derived.Test.YtihcioghbidblaaRam
import Derived.Handy
namespace Go.Proofs.Ytihcioghbidblaa
open Go.RowKit
set_option linter.unusedVariables false

set_option maxHeartbeats 2000000 in
theorem rmodes_ok (a b c d : Int) (w : World) (ha : OkM a) (hb : OkM b) (hc : OkM c) (hd : OkM d) : Calls Try.prog 37 #[.agg #[.int .i64 a, .int .i64 b, .int .i64 c, .int .i64 d]] w fun e w' => e = .returned (.bool true) ∧ Below w.heap.size w w' := by
  have a1 : ¬ a < 0 := by have := ha.1; omega
  have a2 : ¬ 3 < a := by have := ha.2; omega
  have b1 : ¬ b < 0 := by have := hb.1; omega
  have b2 : ¬ 3 < b := by have := hb.2; omega
  have c1 : ¬ c < 0 := by have := hc.1; omega
  have c2 : ¬ 3 < c := by have := hc.2; omega
  have d1 : ¬ d < 0 := by have := hd.1; omega
  have d2 : ¬ 3 < d := by have := hd.2; omega
  clear ha hb hc hd
  obtain ⟨i0, i1, i2, i3⟩ := ixN a b c d
  go_enter Try.func37, Try.ntmps37
  go_wp2_with fail
  go_rounds 5
  go_returns
  exact ⟨rfl, by go_grown⟩

/-- a mode that is none of the four -/
def NoM (m : Int) : Prop := m < 0 ∨ (¬ m < 0 ∧ 3 < m)
def YesM (m : Int) : Prop := ¬ m < 0 ∧ ¬ 3 < m
theorem noWays {a b c d : Int} (h : ¬ (OkM a ∧ OkM b ∧ OkM c ∧ OkM d)) : NoM a ∨ (YesM a ∧ NoM b) ∨ (YesM a ∧ YesM b ∧ NoM c) ∨ (YesM a ∧ YesM b ∧ YesM c ∧ NoM d) := by
  unfold OkM at h
  unfold NoM YesM
  omega

set_option maxHeartbeats 8000000 in
theorem rmodes_bad (a b c d : Int) (w : World) (h : ¬ (OkM a ∧ OkM b ∧ OkM c ∧ OkM d)) : Calls Try.prog 37 #[.agg #[.int .i64 a, .int .i64 b, .int .i64 c, .int .i64 d]] w fun e w' => e = .returned (.bool false) ∧ Below w.heap.size w w' := by
  obtain ⟨i0, i1, i2, i3⟩ := ixN a b c d
  rcases noWays h with z | ⟨⟨x0, y0⟩, z⟩ | ⟨⟨x0, y0⟩, ⟨x1, y1⟩, z⟩ | ⟨⟨x0, y0⟩, ⟨x1, y1⟩, ⟨x2, y2⟩, z⟩
  · clear h
    rcases z with z | ⟨z, z2⟩
    · go_enter Try.func37, Try.ntmps37
      go_wp2_with fail
      go_rounds 1
      go_returns
      exact ⟨rfl, by go_grown⟩
    · go_enter Try.func37, Try.ntmps37
      go_wp2_with fail
      go_rounds 1
      go_returns
      exact ⟨rfl, by go_grown⟩
  · clear h
    rcases z with z | ⟨z, z2⟩
    · go_enter Try.func37, Try.ntmps37
      go_wp2_with fail
      go_rounds 2
      go_returns
      exact ⟨rfl, by go_grown⟩
    · go_enter Try.func37, Try.ntmps37
      go_wp2_with fail
      go_rounds 2
      go_returns
      exact ⟨rfl, by go_grown⟩
  · clear h
    rcases z with z | ⟨z, z2⟩
    · go_enter Try.func37, Try.ntmps37
      go_wp2_with fail
      go_rounds 3
      go_returns
      exact ⟨rfl, by go_grown⟩
    · go_enter Try.func37, Try.ntmps37
      go_wp2_with fail
      go_rounds 3
      go_returns
      exact ⟨rfl, by go_grown⟩
  · clear h
    rcases z with z | ⟨z, z2⟩
    · go_enter Try.func37, Try.ntmps37
      go_wp2_with fail
      go_rounds 4
      go_returns
      exact ⟨rfl, by go_grown⟩
    · go_enter Try.func37, Try.ntmps37
      go_wp2_with fail
      go_rounds 4
      go_returns
      exact ⟨rfl, by go_grown⟩

end Go.Proofs.Ytihcioghbidblaa
