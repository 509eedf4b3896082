/-
  Whatever is handed in, the law OilSays returns true: all calls of package oil answer what the document says. No condition.
-/
import Derived.Test.YtebfjlgmljfnlaaROil
import Derived.Test.YtebfjlgmljfnlaaAgrEq
import Derived.Test.YtebfjlgmljfnlaaOilEq
import Derived.Test.YtebfjlgmljfnlaaOilBx
import Derived.Test.YtebfjlgmljfnlaaOpenZ
import Derived.Laws.StructEq
import Derived.ProofKit
namespace Go.Proofs.Ytebfjlgmljfnlaa.oilSays
open Go.ChangeShapes Go.WideShapes Go.ChangeAt Go.RowKit
set_option linter.unusedVariables false

theorem own : ownKnob Try.prog.godebug = none := by kernel_rfl
theorem laidOut : laidOutB Try.prog = true := by kernel_rfl

theorem list2 {l : List Value} (h : l.length = 2) : ∃ c0 c1, l = [c0, c1] := by
  match l, h with
  | [c0, c1], _ => exact ⟨c0, c1, rfl⟩

theorem open22 {H : Type} {enc : TypeId × Value → H} {w : World} {base : Nat} {spare : Nat → Bool} {held : Bool} {fuel : Nat} {cs : List Value} {x : DataW H × List MemPlace} (h : DataW.trod enc Try.prog w base spare held fuel 22 cs = some x) (hz : Light Try.prog 22 x.1) :
    ∃ v0 : Bool, ∃ v1 : Bool, cs = [.bool v0, .bool v1] := by
  obtain ⟨hl, hf⟩ := trod_elem_z Try.underlying22 h hz
  rw [show Try.prog.cellsOf 22 = 2 from by kernel_rfl] at hl
  obtain ⟨c0, c1, rfl⟩ := list2 hl
  obtain ⟨n0, y0, h0, z0⟩ := hf 0 (by decide)
  replace h0 : DataW.trod enc Try.prog w base spare held n0 4 (([c0, c1] : List Value).drop (0 * Try.prog.cellsOf 4) |>.take (Try.prog.cellsOf 4)) = some y0 := h0
  rw [show Try.prog.cellsOf 4 = 1 from by kernel_rfl] at h0
  replace h0 : DataW.trod enc Try.prog w base spare held n0 4 [c0] = some y0 := h0
  obtain ⟨n1, y1, h1, z1⟩ := hf 1 (by decide)
  replace h1 : DataW.trod enc Try.prog w base spare held n1 4 (([c0, c1] : List Value).drop (1 * Try.prog.cellsOf 4) |>.take (Try.prog.cellsOf 4)) = some y1 := h1
  rw [show Try.prog.cellsOf 4 = 1 from by kernel_rfl] at h1
  replace h1 : DataW.trod enc Try.prog w base spare held n1 4 [c1] = some y1 := h1
  obtain ⟨x0, e0, _⟩ := DataW.trod_bool Try.underlying4 h0
  simp only [List.cons.injEq, and_true] at e0
  obtain rfl := e0
  obtain ⟨x1, e1, _⟩ := DataW.trod_bool Try.underlying4 h1
  simp only [List.cons.injEq, and_true] at e1
  obtain rfl := e1
  exact ⟨x0, x1, rfl⟩

theorem open23 {H : Type} {enc : TypeId × Value → H} {w : World} {base : Nat} {spare : Nat → Bool} {held : Bool} {fuel : Nat} {cs : List Value} {x : DataW H × List MemPlace} (h : DataW.trod enc Try.prog w base spare held fuel 23 cs = some x) (hz : Light Try.prog 23 x.1) :
    ∃ v0 : Int, ∃ v1 : Int, cs = [.int .i32 v0, .int .i32 v1] ∧ (Lit.int .i32 v0).wf = true ∧ (Lit.int .i32 v1).wf = true := by
  obtain ⟨hl, hf⟩ := trod_elem_z Try.underlying23 h hz
  rw [show Try.prog.cellsOf 23 = 2 from by kernel_rfl] at hl
  obtain ⟨c0, c1, rfl⟩ := list2 hl
  obtain ⟨n0, y0, h0, z0⟩ := hf 0 (by decide)
  replace h0 : DataW.trod enc Try.prog w base spare held n0 21 (([c0, c1] : List Value).drop (0 * Try.prog.cellsOf 21) |>.take (Try.prog.cellsOf 21)) = some y0 := h0
  rw [show Try.prog.cellsOf 21 = 1 from by kernel_rfl] at h0
  replace h0 : DataW.trod enc Try.prog w base spare held n0 21 [c0] = some y0 := h0
  obtain ⟨n1, y1, h1, z1⟩ := hf 1 (by decide)
  replace h1 : DataW.trod enc Try.prog w base spare held n1 21 (([c0, c1] : List Value).drop (1 * Try.prog.cellsOf 21) |>.take (Try.prog.cellsOf 21)) = some y1 := h1
  rw [show Try.prog.cellsOf 21 = 1 from by kernel_rfl] at h1
  replace h1 : DataW.trod enc Try.prog w base spare held n1 21 [c1] = some y1 := h1
  obtain ⟨x0, e0, _, f0_0⟩ := DataW.trod_int Try.underlying21 h0
  simp only [List.cons.injEq, and_true] at e0
  obtain rfl := e0
  obtain ⟨x1, e1, _, f1_0⟩ := DataW.trod_int Try.underlying21 h1
  simp only [List.cons.injEq, and_true] at e1
  obtain rfl := e1
  exact ⟨x0, x1, rfl, f0_0, f1_0⟩


/-- what Step tells, by its bounds -/
def Bnd (a b A B : Bool) (p q h l e : Int) : Prop :=
  (l < 0 ∧ A = false ∧ B = false ∧ e = 1) ∨ (¬ l < 0 ∧ h < l ∧ A = false ∧ B = false ∧ e = 1) ∨ (¬ l < 0 ∧ ¬ h < l ∧ e = 0 ∧ ∀ W, Calls Try.prog 9 #[.agg #[.bool a, .bool b], .agg #[.int .i32 p, .int .i32 q], .int .i32 h, .int .i32 l] W fun e w' => e = .returned (.agg #[.bool A, .bool B]) ∧ Below W.heap.size W w')
/-- what Source tells, by its lane -/
def Src (a b : Bool) (k n f : Int) : Prop :=
  (k < 0 ∧ n = 0 ∧ f = 1) ∨ (¬ k < 0 ∧ 3 < k ∧ n = 0 ∧ f = 1) ∨ (¬ k < 0 ∧ ¬ 3 < k ∧ ∃ m, (∀ W, Calls Try.prog 10 #[.agg #[.bool a, .bool b], .int .i64 k] W fun e w' => e = .returned (.int .i64 m) ∧ Below W.heap.size W w') ∧ ((m = -1 ∧ n = 0 ∧ f = 7) ∨ (m = 0 ∧ n = 0 ∧ f = 0) ∨ (m = 1 ∧ n = 1 ∧ f = 0)))

set_option maxHeartbeats 16000000 in
set_option maxRecDepth 100000 in
theorem main (a b A B : Bool) (p q h l k e n f s0 s1 s2 s3 : Int) (h0 h1 h2 h3 : Bool) (w : World)
    (CS : Hid (∀ W, Calls Try.prog 5 #[.agg #[.bool a, .bool b], .agg #[.int .i32 p, .int .i32 q], .int .i32 h, .int .i32 l] W fun r w' => r = .returned (.tuple #[.agg #[.bool A, .bool B], .int .i64 e]) ∧ Below W.heap.size W w'))
    (CN : Hid (∀ W, Calls Try.prog 6 #[.agg #[.bool a, .bool b], .int .i64 k] W fun r w' => r = .returned (.tuple #[.int .i64 n, .int .i64 f]) ∧ Below W.heap.size W w'))
    (CP : Hid (∀ W, Calls Try.prog 7 #[.agg #[.bool a, .bool b], .agg #[.int .i32 p, .int .i32 q]] W fun r w' => r = .returned (.tuple #[.agg #[.int .i32 s0, .int .i32 s1, .int .i32 s2, .int .i32 s3], .agg #[.bool h0, .bool h1, .bool h2, .bool h3]]) ∧ Below W.heap.size W w'))
    (CR : Hid (∀ W, Calls Try.prog 8 #[.agg #[.bool a, .bool b], .agg #[.int .i32 p, .int .i32 q]] W fun r w' => r = .returned (.tuple #[.agg #[.int .i32 s0, .int .i32 s1, .int .i32 s2, .int .i32 s3], .agg #[.bool h0, .bool h1, .bool h2, .bool h3]]) ∧ Below W.heap.size W w'))
    (HB : Hid (Bnd a b A B p q h l e)) (HK : Hid (Src a b k n f)) :
    Calls Try.prog 3 #[.agg #[.bool a, .bool b], .agg #[.int .i32 p, .int .i32 q], .int .i32 h, .int .i32 l, .int .i64 k] w fun e w' => e = .returned (.bool true) ∧ Below w.heap.size w w' := by
  have B0 : Hid (_) := bxs_two w #[.bool a, .bool b] #[.int .i32 p, .int .i32 q] 22 23
  go_enter Try.func3, Try.ntmps3
  go_wp2_with fail
  refine (CS.out _).mono ?_
  rintro r w1 ⟨rfl, hb⟩
  have B1 : Hid (_) := B0.out.step hb
  clear hb B0 CS
  have cl := (B1.out.box 0 _ _ rfl).lt
  have c0 := (B1.out.box 0 _ _ rfl).cell 0 _ rfl
  have c1 := (B1.out.box 0 _ _ rfl).cell 1 _ rfl
  have dl := (B1.out.box 1 _ _ rfl).lt
  have d0 := (B1.out.box 1 _ _ rfl).cell 0 _ rfl
  have d1 := (B1.out.box 1 _ _ rfl).cell 1 _ rfl
  go_wp2_with fail
  obtain ⟨N1, W1, hW1, hN1, B2', Z1⟩ := B1.out.new #[.bool A, .bool B] 22
  rw [hW1, hN1]
  have B2 : Hid (_) := B2'
  clear hW1 hN1 B2' B1 Z1
  clear cl c0 c1
  clear dl d0 d1
  refine (CN.out _).mono ?_
  rintro r w2 ⟨rfl, hb⟩
  have B3 : Hid (_) := B2.out.step hb
  clear hb B2 CN
  have cl := (B3.out.box 0 _ _ rfl).lt
  have c0 := (B3.out.box 0 _ _ rfl).cell 0 _ rfl
  have c1 := (B3.out.box 0 _ _ rfl).cell 1 _ rfl
  have dl := (B3.out.box 1 _ _ rfl).lt
  have d0 := (B3.out.box 1 _ _ rfl).cell 0 _ rfl
  have d1 := (B3.out.box 1 _ _ rfl).cell 1 _ rfl
  go_wp2_with fail
  refine (CP.out _).mono ?_
  rintro r w3 ⟨rfl, hb⟩
  have B4 : Hid (_) := B3.out.step hb
  clear hb B3 CP
  clear cl c0 c1
  clear dl d0 d1
  have cl := (B4.out.box 0 _ _ rfl).lt
  have c0 := (B4.out.box 0 _ _ rfl).cell 0 _ rfl
  have c1 := (B4.out.box 0 _ _ rfl).cell 1 _ rfl
  have dl := (B4.out.box 1 _ _ rfl).lt
  have d0 := (B4.out.box 1 _ _ rfl).cell 0 _ rfl
  have d1 := (B4.out.box 1 _ _ rfl).cell 1 _ rfl
  go_wp2_with fail
  obtain ⟨N4, W4, hW4, hN4, B5', Z4⟩ := B4.out.new2 #[.int .i32 s0, .int .i32 s1, .int .i32 s2, .int .i32 s3] #[.bool h0, .bool h1, .bool h2, .bool h3] 29 30
  rw [hW4, hN4]
  have B5 : Hid (_) := B5'
  clear hW4 hN4 B5' B4 Z4
  clear cl c0 c1
  clear dl d0 d1
  refine (CR.out _).mono ?_
  rintro r w5 ⟨rfl, hb⟩
  have B6 : Hid (_) := B5.out.step hb
  clear hb B5 CR
  go_upto_region 5 with (fail)
  obtain ⟨N7, W7, hW7, hN7, B7', Z7⟩ := B6.out.new2 #[.int .i32 s0, .int .i32 s1, .int .i32 s2, .int .i32 s3] #[.bool h0, .bool h1, .bool h2, .bool h3] 29 30
  rw [hW7, hN7]
  have B7 : Hid (_) := B7'
  clear hW7 hN7 B7' B6 Z7
  have E1 := fun W => eq4i s0 s1 s2 s3 W
  have E2 := fun W => eq4b h0 h1 h2 h3 W
  have cl := (B7.out.box 0 _ _ rfl).lt
  have c0 := (B7.out.box 0 _ _ rfl).cell 0 _ rfl
  have c1 := (B7.out.box 0 _ _ rfl).cell 1 _ rfl
  have dl := (B7.out.box 1 _ _ rfl).lt
  have d0 := (B7.out.box 1 _ _ rfl).cell 0 _ rfl
  have d1 := (B7.out.box 1 _ _ rfl).cell 1 _ rfl
  have xl := (B7.out.box 2 _ _ rfl).lt
  have x0 := (B7.out.box 2 _ _ rfl).cell 0 _ rfl
  have x1 := (B7.out.box 2 _ _ rfl).cell 1 _ rfl
  have yl := (B7.out.box 3 _ _ rfl).lt
  have y0 := (B7.out.box 3 _ _ rfl).cell 0 _ rfl
  have y1 := (B7.out.box 3 _ _ rfl).cell 1 _ rfl
  have y2 := (B7.out.box 3 _ _ rfl).cell 2 _ rfl
  have y3 := (B7.out.box 3 _ _ rfl).cell 3 _ rfl
  have zl := (B7.out.box 4 _ _ rfl).lt
  have z0 := (B7.out.box 4 _ _ rfl).cell 0 _ rfl
  have z1 := (B7.out.box 4 _ _ rfl).cell 1 _ rfl
  have z2 := (B7.out.box 4 _ _ rfl).cell 2 _ rfl
  have z3 := (B7.out.box 4 _ _ rfl).cell 3 _ rfl
  have ul := (B7.out.box 5 _ _ rfl).lt
  have u0 := (B7.out.box 5 _ _ rfl).cell 0 _ rfl
  have u1 := (B7.out.box 5 _ _ rfl).cell 1 _ rfl
  have u2 := (B7.out.box 5 _ _ rfl).cell 2 _ rfl
  have u3 := (B7.out.box 5 _ _ rfl).cell 3 _ rfl
  have vl := (B7.out.box 6 _ _ rfl).lt
  have v0 := (B7.out.box 6 _ _ rfl).cell 0 _ rfl
  have v1 := (B7.out.box 6 _ _ rfl).cell 1 _ rfl
  have v2 := (B7.out.box 6 _ _ rfl).cell 2 _ rfl
  have v3 := (B7.out.box 6 _ _ rfl).cell 3 _ rfl
  go_upto_region 7 with (fail)
  clear E1 E2
  clear yl y0 y1 y2 y3
  clear zl z0 z1 z2 z3
  clear ul u0 u1 u2 u3
  clear vl v0 v1 v2 v3
  rcases HB.out with ⟨hl, rfl, rfl, rfl⟩ | ⟨hl, hl2, rfl, rfl, rfl⟩ | ⟨hl, hl2, rfl, CO⟩
  · have E3 := fun W => eq2b false false W
    go_upto_region 12 with (fail)
    clear E3 hl
    rcases HK.out with ⟨hk, rfl, rfl⟩ | ⟨hk, hk2, rfl, rfl⟩ | ⟨hk, hk2, m, CK, ⟨rfl, rfl, rfl⟩ | ⟨rfl, rfl, rfl⟩ | ⟨rfl, rfl, rfl⟩⟩
    · go_wp2_with fail
      go_ret
      exact ⟨rfl, B7.out.bel⟩
    · go_wp2_with fail
      go_ret
      exact ⟨rfl, B7.out.bel⟩
    all_goals
      have CK2 : Hid (_) := CK
      clear CK
      go_wp2_with fail
      refine (CK2.out _).mono ?_
      rintro r w9 ⟨rfl, hb⟩
      have B9 : Hid (_) := B7.out.step hb
      clear hb
      go_wp2_with fail
      go_ret
      exact ⟨rfl, B9.out.bel⟩
  · have E3 := fun W => eq2b false false W
    go_upto_region 12 with (fail)
    clear E3 hl hl2
    rcases HK.out with ⟨hk, rfl, rfl⟩ | ⟨hk, hk2, rfl, rfl⟩ | ⟨hk, hk2, m, CK, ⟨rfl, rfl, rfl⟩ | ⟨rfl, rfl, rfl⟩ | ⟨rfl, rfl, rfl⟩⟩
    · go_wp2_with fail
      go_ret
      exact ⟨rfl, B7.out.bel⟩
    · go_wp2_with fail
      go_ret
      exact ⟨rfl, B7.out.bel⟩
    all_goals
      have CK2 : Hid (_) := CK
      clear CK
      go_wp2_with fail
      refine (CK2.out _).mono ?_
      rintro r w9 ⟨rfl, hb⟩
      have B9 : Hid (_) := B7.out.step hb
      clear hb
      go_wp2_with fail
      go_ret
      exact ⟨rfl, B9.out.bel⟩
  · have CO2 : Hid (_) := CO
    clear CO
    have E3 := fun W => eq2b A B W
    go_upto_region 10 with (fail)
    clear hl hl2
    go_region_held3 (fun w' => (w'.cell? ⟨w.heap.size, 0, none⟩ = some (.bool a) ∧ w'.cell? ⟨w.heap.size, 1, none⟩ = some (.bool b)) ∧ (w'.cell? ⟨w.heap.size + 1, 0, none⟩ = some (.int .i32 p) ∧ w'.cell? ⟨w.heap.size + 1, 1, none⟩ = some (.int .i32 q)) ∧ w'.cell? ⟨N1, 0, none⟩ = some (.bool A) ∧ w'.cell? ⟨N1, 1, none⟩ = some (.bool B)) (go_keep) (first | (go_at_call 9; refine (CO2.out _).mono ?_; rintro r w8 ⟨rfl, hb⟩; have B8 : Hid (_) := B7.out.drew.step hb; clear hb c0 c1 cl d0 d1 dl x0 x1 xl; have c0 := (B8.out.box 0 _ _ rfl).cell 0 _ rfl; have c1 := (B8.out.box 0 _ _ rfl).cell 1 _ rfl; have cl := (B8.out.box 0 _ _ rfl).lt; have d0 := (B8.out.box 1 _ _ rfl).cell 0 _ rfl; have d1 := (B8.out.box 1 _ _ rfl).cell 1 _ rfl; have dl := (B8.out.box 1 _ _ rfl).lt; have x0 := (B8.out.box 2 _ _ rfl).cell 0 _ rfl; have x1 := (B8.out.box 2 _ _ rfl).cell 1 _ rfl; have xl := (B8.out.box 2 _ _ rfl).lt))
    all_goals (go_upto_region 12 with (fail))
    clear E3 CO2 c0 c1 d0 d1 dl x0 x1 xl
    have c0 := (B8.out.box 0 _ _ rfl).cell 0 _ rfl
    have c1 := (B8.out.box 0 _ _ rfl).cell 1 _ rfl
    rcases HK.out with ⟨hk, rfl, rfl⟩ | ⟨hk, hk2, rfl, rfl⟩ | ⟨hk, hk2, m, CK, ⟨rfl, rfl, rfl⟩ | ⟨rfl, rfl, rfl⟩ | ⟨rfl, rfl, rfl⟩⟩
    · go_wp2_with fail
      go_ret
      exact ⟨rfl, B8.out.bel⟩
    · go_wp2_with fail
      go_ret
      exact ⟨rfl, B8.out.bel⟩
    all_goals
      have CK2 : Hid (_) := CK
      clear CK
      go_wp2_with fail
      refine (CK2.out _).mono ?_
      rintro r w9 ⟨rfl, hb⟩
      have B9 : Hid (_) := B8.out.step hb
      clear hb
      go_wp2_with fail
      go_ret
      exact ⟨rfl, B9.out.bel⟩

set_option maxRecDepth 100000 in
theorem walk (on0 : Bool) (on1 : Bool) (p0 : Int) (p1 : Int) (high : Int) (low : Int) (k : Int) (w : World) (h_p0 : (Lit.int .i32 p0).wf = true) (h_p1 : (Lit.int .i32 p1).wf = true) (h_high : (Lit.int .i32 high).wf = true) (h_low : (Lit.int .i32 low).wf = true) (h_k : (Lit.int .i64 k).wf = true) :
    Calls Try.prog 3 #[.agg #[.bool on0, .bool on1], .agg #[.int .i32 p0, .int .i32 p1], .int .i32 high, .int .i32 low, .int .i64 k] w fun e w' => e = .returned (.bool true) ∧ Below w.heap.size w w' := by
  obtain ⟨n, f, hN, hK⟩ : ∃ n f, (∀ W, Calls Try.prog 6 #[.agg #[.bool on0, .bool on1], .int .i64 k] W fun r w' => r = .returned (.tuple #[.int .i64 n, .int .i64 f]) ∧ Below W.heap.size W w') ∧ Src on0 on1 k n f := by
    by_cases h1 : k < 0
    · exact ⟨0, 1, fun W => source_bad on0 on1 k W (Or.inl h1), Or.inl ⟨h1, rfl, rfl⟩⟩
    · by_cases h2 : 3 < k
      · exact ⟨0, 1, fun W => source_bad on0 on1 k W (Or.inr h2), Or.inr (Or.inl ⟨h1, h2, rfl, rfl⟩)⟩
      · have hk : k = 0 ∨ k = 1 ∨ k = 2 ∨ k = 3 := by omega
        obtain rfl | rfl | rfl | rfl := hk
        · refine ⟨srcN on0 on1 0, srcE on0 on1 0, fun W => source_0 on0 on1 W, Or.inr (Or.inr ⟨h1, h2, srcR on0 on1 0, fun W => rsource_0 on0 on1 W, ?_⟩)⟩
          cases on0 <;> cases on1 <;> decide
        · refine ⟨srcN on0 on1 1, srcE on0 on1 1, fun W => source_1 on0 on1 W, Or.inr (Or.inr ⟨h1, h2, srcR on0 on1 1, fun W => rsource_1 on0 on1 W, ?_⟩)⟩
          cases on0 <;> cases on1 <;> decide
        · refine ⟨srcN on0 on1 2, srcE on0 on1 2, fun W => source_2 on0 on1 W, Or.inr (Or.inr ⟨h1, h2, srcR on0 on1 2, fun W => rsource_2 on0 on1 W, ?_⟩)⟩
          cases on0 <;> cases on1 <;> decide
        · refine ⟨srcN on0 on1 3, srcE on0 on1 3, fun W => source_3 on0 on1 W, Or.inr (Or.inr ⟨h1, h2, srcR on0 on1 3, fun W => rsource_3 on0 on1 W, ?_⟩)⟩
          cases on0 <;> cases on1 <;> decide
  obtain ⟨A, B, e, hS, hB⟩ : ∃ A B e, (∀ W, Calls Try.prog 5 #[.agg #[.bool on0, .bool on1], .agg #[.int .i32 p0, .int .i32 p1], .int .i32 high, .int .i32 low] W fun r w' => r = .returned (.tuple #[.agg #[.bool A, .bool B], .int .i64 e]) ∧ Below W.heap.size W w') ∧ Bnd on0 on1 A B p0 p1 high low e := by
    by_cases h1 : low < 0
    · exact ⟨false, false, 1, fun W => oilStep_bad on0 on1 p0 p1 high low W (fun h => by have := h.1; omega), Or.inl ⟨h1, rfl, rfl, rfl⟩⟩
    · by_cases h2 : high < low
      · exact ⟨false, false, 1, fun W => oilStep_bad on0 on1 p0 p1 high low W (fun h => by have := h.2; omega), Or.inr (Or.inl ⟨h1, h2, rfl, rfl, rfl⟩)⟩
      · exact ⟨_, _, 0, fun W => oilStep_ok on0 on1 p0 p1 high low W ⟨by omega, by omega⟩, Or.inr (Or.inr ⟨h1, h2, rfl, fun W => roilStep_any on0 on1 p0 p1 high low W⟩)⟩
  exact main on0 on1 A B p0 p1 high low k e n f _ _ _ _ _ _ _ _ w hS hN (fun W => supply_any on0 on1 p0 p1 W) (fun W => rsupply_any on0 on1 p0 p1 W) hB hK

/-! ### THE ROW's STEP -/
set_option maxRecDepth 100000 in
theorem lifted (os : Os) (started : os.Started) (H : Type) (enc : TypeId × Value → H) :
    ReturnsInHanded {} Try.checked os 3 .any (Rows.oilSaysSpec.pre6 enc Try.prog Try.f3 Rows.oilSaysRow.domain false) (Rows.oilSaysSpec.post enc Try.prog Try.f3 false true false false) := by
  refine returnsInHanded_of_change_sized (C := Try.checked) own started (by kernel_rfl) Try.func3
    (ChangeSpec.witness6 (enc := enc) (C := Try.checked) false ⟨#[], #[.agg #[.bool false, .bool false], .agg #[.int .i32 0, .int .i32 0], .int .i32 0, .int .i32 0, .int .i64 0], []⟩ 8 (by kernel_rfl) (by kernel_rfl) (by kernel_rfl) (by kernel_rfl)) ?_
  intro W base args ds gs before hval0 hW hcnd hsz0 _
  have hval : ∀ (j : Nat) t v, Try.f3.params[j]? = some t → args[j]? = some v → Value.okWide Try.prog W .any base t v := hval0
  have hW' := hW
  obtain ⟨p, q, hA0, hV, rfl, hfz, hnd⟩ := hW
  have hA : DataW.TrodAll enc Try.prog W 0 (fun _ => true) true Try.f3.params.toList args.toList ds p := hA0
  rw [Try.params3] at hA hval
  obtain ⟨v_0, vs_0, d_0, ds_0, p_0, q_0, hargs, rfl, rfl, h_0, r_0⟩ := trodAll_cons hA
  obtain ⟨v_1, vs_1, d_1, ds_1, p_1, q_1, rfl, rfl, rfl, h_1, r_1⟩ := trodAll_cons r_0
  obtain ⟨v_2, vs_2, d_2, ds_2, p_2, q_2, rfl, rfl, rfl, h_2, r_2⟩ := trodAll_cons r_1
  obtain ⟨v_3, vs_3, d_3, ds_3, p_3, q_3, rfl, rfl, rfl, h_3, r_3⟩ := trodAll_cons r_2
  obtain ⟨v_4, vs_4, d_4, ds_4, p_4, q_4, rfl, rfl, rfl, h_4, r_4⟩ := trodAll_cons r_3
  obtain ⟨rfl, rfl, rfl⟩ := trodAll_nil r_4
  obtain rfl : args = #[v_0, v_1, v_2, v_3, v_4] := by cases args; simp_all
  obtain ⟨rfl, rfl⟩ := trodVars_none hV
  have hz_0 : Light Try.prog 22 d_0 := light_of hsz0 (j := 0) (by first | rfl | (rw [Try.params3]; rfl)) rfl
  have k_0 := h_0
  have lt_0 : ∀ x ∈ p_0, x.block < W.heap.size := by obtain ⟨m, hm⟩ := k_0; exact DataW.trod_lt m _ _ _ hm
  obtain ⟨cs_0, rfl, _⟩ := okWide_array Try.underlying22 (hval 0 22 v_0 rfl rfl)
  obtain ⟨on0, on1, e_0⟩ := (by obtain ⟨fuel, hf⟩ := h_0; exact open22 hf hz_0 : ∃ on0 : Bool, ∃ on1 : Bool, cs_0.toList = [.bool on0, .bool on1])
  obtain rfl : cs_0 = #[.bool on0, .bool on1] := by cases cs_0; simp_all
  clear e_0
  have hz_1 : Light Try.prog 23 d_1 := light_of hsz0 (j := 1) (by first | rfl | (rw [Try.params3]; rfl)) rfl
  have k_1 := h_1
  have lt_1 : ∀ x ∈ p_1, x.block < W.heap.size := by obtain ⟨m, hm⟩ := k_1; exact DataW.trod_lt m _ _ _ hm
  obtain ⟨cs_1, rfl, _⟩ := okWide_array Try.underlying23 (hval 1 23 v_1 rfl rfl)
  obtain ⟨p0, p1, e_1, h_p0, h_p1⟩ := (by obtain ⟨fuel, hf⟩ := h_1; exact open23 hf hz_1 : ∃ p0 : Int, ∃ p1 : Int, cs_1.toList = [.int .i32 p0, .int .i32 p1] ∧ (Lit.int .i32 p0).wf = true ∧ (Lit.int .i32 p1).wf = true)
  obtain rfl : cs_1 = #[.int .i32 p0, .int .i32 p1] := by cases cs_1; simp_all
  clear e_1
  have hz_2 : Light Try.prog 21 d_2 := light_of hsz0 (j := 2) (by first | rfl | (rw [Try.params3]; rfl)) rfl
  have k_2 := h_2
  have lt_2 : ∀ x ∈ p_2, x.block < W.heap.size := by obtain ⟨m, hm⟩ := k_2; exact DataW.trod_lt m _ _ _ hm
  obtain ⟨high, rfl, rfl, rfl, h_high⟩ := open_int Try.underlying21 (hval 2 21 v_2 rfl rfl) h_2
  have hz_3 : Light Try.prog 21 d_3 := light_of hsz0 (j := 3) (by first | rfl | (rw [Try.params3]; rfl)) rfl
  have k_3 := h_3
  have lt_3 : ∀ x ∈ p_3, x.block < W.heap.size := by obtain ⟨m, hm⟩ := k_3; exact DataW.trod_lt m _ _ _ hm
  obtain ⟨low, rfl, rfl, rfl, h_low⟩ := open_int Try.underlying21 (hval 3 21 v_3 rfl rfl) h_3
  have hz_4 : Light Try.prog 3 d_4 := light_of hsz0 (j := 4) (by first | rfl | (rw [Try.params3]; rfl)) rfl
  have k_4 := h_4
  have lt_4 : ∀ x ∈ p_4, x.block < W.heap.size := by obtain ⟨m, hm⟩ := k_4; exact DataW.trod_lt m _ _ _ hm
  obtain ⟨k, rfl, rfl, rfl, h_k⟩ := open_int Try.underlying3 (hval 4 3 v_4 rfl rfl) h_4
  clear hA0 hval0
  refine (walk on0 on1 p0 p1 high low k W h_p0 h_p1 h_high h_low h_k).mono fun e W' ⟨he, bel⟩ => ?_
  subst he
  exact ⟨_, rfl, _, _, _, [], _, [], hW', trodAll_mk1 (shut_bool Try.underlying4 _), (trodAll_cons_mk (Below.trod laidOut (by kernel_rfl) (of_decide_eq_true (by kernel_rfl)) k_0 bel lt_0) (trodAll_cons_mk (Below.trod laidOut (by kernel_rfl) (of_decide_eq_true (by kernel_rfl)) k_1 bel lt_1) (trodAll_cons_mk (Below.trod laidOut (by kernel_rfl) (of_decide_eq_true (by kernel_rfl)) k_2 bel lt_2) (trodAll_cons_mk (Below.trod laidOut (by kernel_rfl) (of_decide_eq_true (by kernel_rfl)) k_3 bel lt_3) (trodAll_cons_mk (Below.trod laidOut (by kernel_rfl) (of_decide_eq_true (by kernel_rfl)) k_4 bel lt_4) trodAll_mk0))))), rfl, bel.frame _, fun h => by cases h⟩

theorem over : Rows.oilSaysRow.holds Try.pinned (OpenSpec.ofChange Rows.oilSaysSpec) :=
  OpenClaim.holds_of_wide 3 Try.f3 rfl rfl rfl rfl rfl rfl rfl ⟨rfl, rfl, rfl, rfl, rfl⟩ rfl rfl rfl rfl rfl (by kernel_rfl) Try.func3 (by kernel_rfl)
    (of_decide_eq_true (by kernel_rfl)) (by unfold Func.isWrapper; first | (rw [if_pos (by decide +kernel)]; kernel_rfl) | (rw [if_neg (by decide +kernel)]; exact ⟨rfl, rfl⟩))
    (fun os started H enc _ => lifted os started H enc)


end Go.Proofs.Ytebfjlgmljfnlaa.oilSays
namespace Go.Proofs.Ytebfjlgmljfnlaa
/-- THE STATEMENT -/
theorem oilSays_holds : Rows.OilSaysSaid := oilSays.over
#print axioms oilSays_holds
end Go.Proofs.Ytebfjlgmljfnlaa
