/-
  What lane k takes for lane i's number (agree.takes): its own one, or what two of three words are; whether lane j gainsays both others (agree.gainsaysBoth).
-/
import Derived.Test.YtokfdapocnmafaaAgr
import Derived.Test.YtokfdapocnmafaaVotRow
import Derived.BigRegion
namespace Go.Proofs.Ytokfdapocnmafaa
open Go.RowKit
set_option linter.unusedVariables false

/-- what two of three are, or 0; and the error -/
def maj3 (a b c : Int) : Int := if a = b then a else if a = c then a else if b = c then b else 0
def maj3E (a b c : Int) : Int := if a = b ∨ a = c ∨ b = c then 0 else 11
def three (a b c : Int) : Nat → Int := fun j => if j = 0 then a else if j = 1 then b else c
theorem cnt3 (p : Int → Bool) (a b c : Int) : cnt p (three a b c) 3 = (if p a then 1 else 0) + (if p b then 1 else 0) + (if p c then 1 else 0) := by
  rw [cnt_succ, cnt_succ, cnt_succ]
  show 0 + (if p a = true then 1 else 0) + (if p b = true then 1 else 0) + (if p c = true then 1 else 0) = _
  omega
theorem maj3_maj (a b c : Int) : Maj (three a b c) 3 (maj3 a b c) (maj3E a b c) := by
  unfold Maj maj3 maj3E
  by_cases h1 : a = b
  · left
    rw [if_pos (Or.inl h1), if_pos h1, cnt3]
    subst h1
    simp [eqI]
    split <;> omega
  · by_cases h2 : a = c
    · left
      rw [if_pos (Or.inr (Or.inl h2)), if_neg h1, if_pos h2, cnt3]
      subst h2
      simp [eqI]
      split <;> omega
    · by_cases h3 : b = c
      · left
        rw [if_pos (Or.inr (Or.inr h3)), if_neg h1, if_neg h2, if_pos h3, cnt3]
        subst h3
        simp [eqI]
        split <;> omega
      · right
        refine ⟨by rw [if_neg (by simp [h1, h2, h3])], by rw [if_neg h1, if_neg h2, if_neg h3], fun x => ?_⟩
        rw [cnt3]
        simp only [eqI, beq_iff_eq]
        split <;> split <;> split <;> omega
/-- what lane k takes for lane i's number -/
def vw (T : Nat → Int) (k i : Nat) : Int := if i = k then said T k k else maj3 (said T i k) (told T i (oth1 i k) k) (told T i (oth2 i k) k)

set_option maxHeartbeats 1000000 in
theorem takes_own (T : Nat → Int) (k : Nat) (hk : k < 4) (w : World) : Calls Try.prog 14 #[.agg (tk T), .int .i64 k, .int .i64 k] w fun e w' => e = .returned (.int .i32 (said T k k)) ∧ Below w.heap.size w w' := by
  have x0 : (tk T)[k * 4 + k]? = some (.int .i32 (said T k k)) := tk_get T (by omega)
  have z0 : (k : Int) < 4 := by omega
  go_enter Try.func14, Try.ntmps14
  go_wp2_with fail
  go_ret
  exact ⟨rfl, by go_grown⟩

theorem maj3_none {a b c : Int} (h : ¬ maj3E a b c = 0) : maj3 a b c = 0 := by
  unfold maj3E at h
  unfold maj3
  by_cases h1 : a = b
  · exact absurd (if_pos (Or.inl h1)) h
  · by_cases h2 : a = c
    · exact absurd (if_pos (Or.inr (Or.inl h2))) h
    · by_cases h3 : b = c
      · exact absurd (if_pos (Or.inr (Or.inr h3))) h
      · rw [if_neg h1, if_neg h2, if_neg h3]

set_option maxHeartbeats 2000000 in
theorem takes_else (T : Nat → Int) (i k p q : Nat) (hi : i < 4) (hk : k < 4) (hp : p < 4) (hq : q < 4) (h : i ≠ k) (w : World) (v0 v1 v2 m E : Int) (h0 : said T i k = v0) (h1 : told T i p k = v1) (h2 : told T i q k = v2) (hM : Maj (three v0 v1 v2) 3 m E) (hm : ¬ E = 0 → m = 0) (HO : ∀ w : World, Calls Try.prog 18 #[.int .i64 i, .int .i64 k] w fun e w' => e = .returned (.agg #[.int .i64 p, .int .i64 q]) ∧ Below w.heap.size w w') :
    Calls Try.prog 14 #[.agg (tk T), .int .i64 i, .int .i64 k] w fun e w' => e = .returned (.int .i32 m) ∧ Below w.heap.size w w' := by
  have HM : Hid (Maj (three v0 v1 v2) 3 m E) := hM
  have Hm : Hid (¬ E = 0 → m = 0) := hm
  clear hM hm
  have z0 : (k : Int) < 4 := by omega
  have z1 : (i : Int) < 4 := by omega
  have z2 : (p : Int) < 4 := by omega
  have z3 : (q : Int) < 4 := by omega
  have e0 : ((i : Int) == (k : Int)) = false := by simp; omega
  go_enter Try.func14, Try.ntmps14
  go_wp2_with fail
  refine (HO _).mono ?_
  rintro e w1 ⟨rfl, hb⟩
  have C0 : TB w1 w.heap.size T := Blk.step (tb_new w T 26) hb
  have B1 : Hid (Below w.heap.size w w1) := ((Below.refl _ w).alloc (Nat.le_refl _) _).trans (hb.mono (by simp))
  clear hb
  generalize hwb : w.heap.size = b at *
  have y0 := C0.said hi hk
  have y1 := C0.told hi hp hk
  have y2 := C0.told hi hq hk
  have bs : b < w1.heap.size := C0.lt
  rw [h0] at y0
  rw [h1] at y1
  rw [h2] at y2
  clear C0 hi hk hp hq HO h0 h1 h2
  go_wp2_with fail
  go_region
  obtain ⟨W, hW⟩ : ∃ W, W = ((w1.alloc (Obj.cells #[Value.int IntKind.i64 (p : Int), Value.int IntKind.i64 (q : Int)] 47)).alloc (Obj.cells #[Value.int IntKind.i32 v0, Value.int IntKind.i32 v1, Value.int IntKind.i32 v2] 49)).drew := ⟨_, rfl⟩
  rw [← hW]
  have HR : Hid (R32 W (some ⟨w1.heap.size + 1, 0, none⟩) 3 (three v0 v1 v2)) := fun _ => ⟨w1.heap.size + 1, 0, rfl, by rw [hW]; simp, fun j hj => by
    rw [Nat.zero_add, hW]
    rcases j with _ | _ | _ | j
    · go_simp; rfl
    · go_simp; rfl
    · go_simp; rfl
    · omega⟩
  have HB : Hid (Below b w W) := by rw [hW]; exact ((B1.out.alloc (by omega) _).alloc (by simp; omega) _).drew
  clear y0 y1 y2 hW
  go_wp2_with fail
  refine (majority_any (some ⟨w1.heap.size + 1, 0, none⟩) 3 3 (three v0 v1 v2) m E W (by omega) HR.out HM.out).mono ?_
  rintro e w2 ⟨rfl, rfl⟩
  by_cases hE : E = 0
  · subst hE
    go_wp2_with fail
    go_ret
    exact ⟨rfl, by rw [hwb]; exact HB.out⟩
  · obtain rfl := Hm.out hE
    have q1 : (E != 0) = true := by simpa using hE
    clear hE
    go_wp2_with fail
    go_ret
    exact ⟨rfl, by rw [hwb]; exact HB.out⟩

theorem takes_any (T : Nat → Int) (i k : Nat) (hi : i < 4) (hk : k < 4) (w : World) : Calls Try.prog 14 #[.agg (tk T), .int .i64 i, .int .i64 k] w fun e w' => e = .returned (.int .i32 (vw T k i)) ∧ Below w.heap.size w w' := by
  by_cases h : i = k
  · subst h
    have e : vw T i i = said T i i := if_pos rfl
    rw [e]
    exact takes_own T i hi w
  · have e : vw T k i = maj3 (said T i k) (told T i (oth1 i k) k) (told T i (oth2 i k) k) := if_neg h
    rw [e]
    exact takes_else T i k _ _ hi hk (oth_lt i k).1 (oth_lt i k).2 h w _ _ _ _ _ rfl rfl rfl (maj3_maj _ _ _) maj3_none (others_any i k hi hk h)

end Go.Proofs.Ytokfdapocnmafaa
