/-
  stroke.Test and the document's own Test answer alike, whatever came in.
-/
import Derived.Test.YtihcioghbidblaaRStkTst
import Derived.Test.YtihcioghbidblaaStkAll
namespace Go.Proofs.Ytihcioghbidblaa
open Go.RowKit
set_option linter.unusedVariables false

theorem rbody_any (g d lo hi p v : Int) : ∃ E, (OkB g d lo hi p → E = 0) ∧ (¬ OkB g d lo hi p → E = 1) ∧ ∀ W, Calls Try.prog 19 #[.agg #[.int .i32 g, .int .i64 d, .int .i32 lo, .int .i32 hi], .agg #[.int .i32 p, .int .i32 v]] W fun e w' => e = .returned (.int .i64 E) ∧ Below W.heap.size W w' := by
  by_cases h : OkB g d lo hi p
  · exact ⟨0, fun _ => rfl, fun k => absurd h k, fun W => rbody_ok g d lo hi p v W h⟩
  · exact ⟨1, fun k => absurd k h, fun _ => rfl, fun W => rbody_bad g d lo hi p v W h⟩
theorem rsrvErr_any (r m P I D lo hi g s t v : Int) : ∃ E, ((OkV r m ∧ lo ≤ s ∧ s ≤ hi) → E = 0) ∧ (¬ (OkV r m ∧ lo ≤ s ∧ s ≤ hi) → E = 1) ∧ ∀ W, Calls Try.prog 20 #[.agg #[.int .i32 r, .int .i64 m, .int .i32 P, .int .i32 I, .int .i32 D, .int .i32 lo, .int .i32 hi], .agg #[.int .i32 g, .int .i32 s, .int .i32 t, .int .i32 v]] W fun e w' => e = .returned (.int .i64 E) ∧ Below W.heap.size W w' := by
  by_cases h : OkV r m ∧ lo ≤ s ∧ s ≤ hi
  · exact ⟨0, fun _ => rfl, fun k => absurd h k, fun W => rsrvErr_ok r m P I D lo hi g s t v W h.1 h.2.1 h.2.2⟩
  · exact ⟨1, fun k => absurd k h, fun _ => rfl, fun W => rsrvErr_bad r m P I D lo hi g s t v W h⟩

theorem rtest_wrong (x : Tri) (p v : Int) (a : Option Addr) (n c : Nat) (l : Nat → Pt) (w : World) (h : RowP w a n l) (h0 : tsE x p l n ≠ 0) :
    Calls Try.prog 9 #[.agg #[.int .i32 x.g, .int .i64 x.n, .int .i32 x.lo, .int .i32 x.hi, .int .i32 p, .int .i32 v, .int .i32 x.r, .int .i64 x.m, .int .i32 x.P, .int .i32 x.I, .int .i32 x.D, .int .i32 x.a, .int .i32 x.b, .int .i32 x.o, .int .i32 x.l, .bool x.k], .slice a n c] w fun e w' => e = .returned (.tuple #[.int .i64 0, .agg #[.int .i32 0, .int .i32 0], .int .i64 (tsE x p l n)]) ∧ Below w.heap.size w w' := by
  obtain ⟨E2, b1, b2, b3⟩ := rbody_any x.g x.n x.lo x.hi p v
  obtain ⟨E3, s1, s2, s3⟩ := rsrvErr_any x.r x.m x.P x.I x.D x.a x.b 0 0 0 0
  refine rtest_bad x p v a n c l w h (chP l n) E2 E3 (tsE x p l n) (fun W hW => rckP_any a n c l W hW) b3 s3 ?_
  by_cases h1 : chP l n = 0
  · by_cases h2 : OkB x.g x.n x.lo x.hi p
    · by_cases h3 : OkV x.r x.m ∧ x.a ≤ 0 ∧ 0 ≤ x.b
      · exact absurd (tsE_ok h1 ⟨h2, h3.1, h3.2.1, h3.2.2⟩) h0
      · right; right
        rw [s2 h3, b1 h2, tsE_two h1 (fun k => h3 ⟨k.srv, k.a0, k.b0⟩)]
        exact ⟨h1, rfl, by decide, rfl⟩
    · right; left
      rw [b2 h2, tsE_two h1 (fun k => h2 k.body)]
      exact ⟨h1, by decide, rfl⟩
  · left
    exact ⟨h1, tsE_one h1⟩

theorem psI_pos {m o : Int} (v : Int) (h : m = 1) (ho : 0 < o) : psI m v o = mulI v o := by
  subst h
  unfold psI mx0
  rw [act_yes, if_neg (by omega)]
theorem mulI_zero_r (v : Int) : mulI v 0 = 0 := by unfold mulI scaleI; rw [Int.mul_zero]; decide
theorem psI_neg {m o : Int} (v : Int) (h : m = 1) (ho : ¬ 0 < o) : psI m v o = 0 := by
  subst h
  have e : mx0 o = 0 := by unfold mx0; split <;> omega
  unfold psI
  rw [act_yes, e]
  exact mulI_zero_r v

theorem rtest_any (x : Tri) (p v : Int) (a : Option Addr) (n c : Nat) (l : Nat → Pt) (w : World) (h : RowP w a n l) (hT : TI x) (hp : I32 p) (hl : ∀ j, I32 (l j).w ∧ I32 (l j).d) (hE : tsE x p l n = 0) :
    Calls Try.prog 9 #[.agg #[.int .i32 x.g, .int .i64 x.n, .int .i32 x.lo, .int .i32 x.hi, .int .i32 p, .int .i32 v, .int .i32 x.r, .int .i64 x.m, .int .i32 x.P, .int .i32 x.I, .int .i32 x.D, .int .i32 x.a, .int .i32 x.b, .int .i32 x.o, .int .i32 x.l, .bool x.k], .slice a n c] w fun e w' => e = .returned (.tuple #[.int .i64 (tsN x (sta0 p v) l n : Nat), .agg #[.int .i32 (tsR x (sta0 p v) l n).p, .int .i32 (tsR x (sta0 p v) l n).v], .int .i64 0]) ∧ Below w.heap.size w w' := by
  obtain ⟨hC, hO⟩ := tsE_zero hE
  have h0 := sta0_ok (v := v) hO hp
  have hZ := ptF_ok hT hO h0 l
  have hQ : ∀ j k, SS x (rnF x (ptF x (sta0 p v) l j) (l j).w k) := fun j k => rnF_ok hT hO (hZ j) k
  have hP : ∀ {z : Sta}, SS x z → I32 z.p := fun {z} hz => ⟨by have := hT.lo.1; have := hz.p1; omega, by have := hT.hi.2; have := hz.p2; omega⟩
  have M1 : OkM 1 ∧ OkM 0 ∧ OkM 0 ∧ OkM 0 := by unfold OkM; omega
  have hV : ∀ {z : Sta} (u : Int), SS x z → I32 (vaF x z u) := fun {z} u hz => by
    unfold vaF
    split
    · exact I32_zero
    · exact lowI_I _ hz.y (stO_I hT.G.lo hT.G.hi)
  exact rtest_core x a n c l w h (ptF x (sta0 p v) l) (fun j => rnF x (ptF x (sta0 p v) l j) (l j).w) (msF x (sta0 p v) l)
    (fun j k => vaF x (rnF x (ptF x (sta0 p v) l j) (l j).w k) (l j).w) (fun j k => psI 1 (vaF x (rnF x (ptF x (sta0 p v) l j) (l j).w k) (l j).w) x.o)
    (fun j => max ((ptF x (sta0 p v) l (j + 1)).p - (l j).w) (-((ptF x (sta0 p v) l (j + 1)).p - (l j).w)))
    (fun W hW => by
      have := rckP_any a n c l W hW
      rw [hC] at this
      exact this)
    (fun W => rbody_ok x.g x.n x.lo x.hi p v W hO.body)
    (fun W => rsrvErr_ok x.r x.m x.P x.I x.D x.a x.b 0 0 0 0 W hO.srv hO.a0 hO.b0)
    ⟨rfl, rfl, rfl, rfl⟩
    (fun j k W hj => rsrvStep_ok x.r x.m x.P x.I x.D x.a x.b _ _ _ _ (l j).w _ W hT.G ⟨hT.r, (hQ j k).q, (hQ j k).t, (hQ j k).y, (hl j).1, hP (hQ j k)⟩ hO.srv (hQ j k).s1 (hQ j k).s2 _ _ _ _ _ rfl rfl rfl rfl rfl)
    (fun j k => by
      unfold vaF
      show x.k = true ∧ _ = _ ∨ x.k = false ∧ _ = _
      rcases hk : x.k
      · right
        exact ⟨rfl, rfl⟩
      · left
        exact ⟨rfl, rfl⟩)
    (fun j k => by
      by_cases ho : 0 < x.o
      · left
        refine ⟨ho, fun W => ?_⟩
        rw [psI_pos _ rfl ho]
        exact rmul_any _ _ (hV (l j).w (hQ j k)).1 (hV (l j).w (hQ j k)).2 hT.o.1 hT.o.2 W
      · exact Or.inr ⟨ho, psI_neg _ rfl ho⟩)
    (fun j k W hj => by
      have e : psI 0 0 0 = 0 := psI_zero 0
      exact rramStep_ok x.g x.n x.lo x.hi _ _ (psI 1 (vaF x (rnF x (ptF x (sta0 p v) l j) (l j).w k) (l j).w) x.o) 0 0 0 1 0 0 0 x.l W ⟨(hQ j k).p1, (hQ j k).p2, hO.body.2.2⟩ M1 ⟨hT.g, hT.lo, hT.hi, hP (hQ j k)⟩ ⟨mulI_I _ _, I32_zero, I32_zero, I32_zero⟩ hT.l 0 (puF x (rnF x (ptF x (sta0 p v) l j) (l j).w k) (l j).w) _ _ (by decide) (by unfold puF; rw [e]) rfl rfl)
    (fun j => rfl) (fun j => rfl)
    (fun j W hj => rapartP_any _ _ (hP (hZ (j + 1))) (hl j).1 W)
    (fun j => rfl) (fun j => (hl j).2)
    (chP_zero hC).2.2 (chP_zero hC).2.1

/-- both answer alike -/
theorem both_any (x : Tri) (p v : Int) (a : Option Addr) (n c : Nat) (l : Nat → Pt) (hT : TI x) (hp : I32 p) (hl : ∀ j, I32 (l j).w ∧ I32 (l j).d) :
    ∃ N P V : Int, (∀ w, RowP w a n l → Calls Try.prog 8 #[.agg #[.int .i32 x.g, .int .i64 x.n, .int .i32 x.lo, .int .i32 x.hi, .int .i32 p, .int .i32 v, .int .i32 x.r, .int .i64 x.m, .int .i32 x.P, .int .i32 x.I, .int .i32 x.D, .int .i32 x.a, .int .i32 x.b, .int .i32 x.o, .int .i32 x.l, .bool x.k], .slice a n c] w fun e w' => e = .returned (.tuple #[.int .i64 N, .agg #[.int .i32 P, .int .i32 V], .int .i64 (tsE x p l n)]) ∧ Below w.heap.size w w') ∧
      ∀ w, RowP w a n l → Calls Try.prog 9 #[.agg #[.int .i32 x.g, .int .i64 x.n, .int .i32 x.lo, .int .i32 x.hi, .int .i32 p, .int .i32 v, .int .i32 x.r, .int .i64 x.m, .int .i32 x.P, .int .i32 x.I, .int .i32 x.D, .int .i32 x.a, .int .i32 x.b, .int .i32 x.o, .int .i32 x.l, .bool x.k], .slice a n c] w fun e w' => e = .returned (.tuple #[.int .i64 N, .agg #[.int .i32 P, .int .i32 V], .int .i64 (tsE x p l n)]) ∧ Below w.heap.size w w' := by
  by_cases h : tsE x p l n = 0
  · refine ⟨(tsN x (sta0 p v) l n : Nat), (tsR x (sta0 p v) l n).p, (tsR x (sta0 p v) l n).v, fun w hr => ?_, fun w hr => ?_⟩
    · rw [h]
      exact test_any x p v a n c l w hr hT hp hl h
    · rw [h]
      exact rtest_any x p v a n c l w hr hT hp hl h
  · exact ⟨0, 0, 0, fun w hr => test_bad x p v a n c l w hr _ rfl h, fun w hr => rtest_wrong x p v a n c l w hr h⟩

end Go.Proofs.Ytihcioghbidblaa
