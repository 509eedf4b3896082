/-
  Whatever is handed in, the law CountHeld returns true: what is Set stays so; what never comes to enough isn't; N stays in its bounds. No condition.
-/
import Derived.Test.YtfdjjhenjkcciaaCountBox
import Derived.Test.YtfdjjhenjkcciaaOpenB
import Derived.ProofKit
namespace Go.Proofs.Ytfdjjhenjkcciaa.countHeld
open Go.ChangeShapes Go.WideShapes Go.ChangeAt Go.RowKit
set_option linter.unusedVariables false

theorem own : ownKnob Try.prog.godebug = none := by kernel_rfl
theorem laidOut : laidOutB Try.prog = true := by kernel_rfl

theorem list2 {l : List Value} (h : l.length = 2) : ∃ c0 c1, l = [c0, c1] := by
  match l, h with
  | [c0, c1], _ => exact ⟨c0, c1, rfl⟩

theorem list3 {l : List Value} (h : l.length = 3) : ∃ c0 c1 c2, l = [c0, c1, c2] := by
  match l, h with
  | [c0, c1, c2], _ => exact ⟨c0, c1, c2, rfl⟩

theorem open23 {H : Type} {enc : TypeId × Value → H} {w : World} {base : Nat} {spare : Nat → Bool} {held : Bool} {fuel : Nat} {cs : List Value} {x : DataW H × List MemPlace} (h : DataW.trod enc Try.prog w base spare held fuel 23 cs = some x) (hz : Light Try.prog 23 x.1) :
    ∃ vUp : Int, ∃ vDown : Int, ∃ vMost : Int, cs = [.int .i64 vUp, .int .i64 vDown, .int .i64 vMost] ∧ (Lit.int .i64 vUp).wf = true ∧ (Lit.int .i64 vDown).wf = true ∧ (Lit.int .i64 vMost).wf = true := by
  obtain ⟨hl, hf⟩ := trod_field_z Try.underlying23 h hz
  rw [show Try.prog.cellsOf 23 = 3 from by kernel_rfl] at hl
  obtain ⟨c0, c1, c2, rfl⟩ := list3 hl
  obtain ⟨n0, y0, h0, z0⟩ := hf 0 _ rfl
  replace h0 : DataW.trod enc Try.prog w base spare held n0 3 (([c0, c1, c2] : List Value).drop 0 |>.take (Try.prog.cellsOf 3)) = some y0 := h0
  rw [show Try.prog.cellsOf 3 = 1 from by kernel_rfl] at h0
  replace h0 : DataW.trod enc Try.prog w base spare held n0 3 [c0] = some y0 := h0
  obtain ⟨n1, y1, h1, z1⟩ := hf 1 _ rfl
  replace h1 : DataW.trod enc Try.prog w base spare held n1 3 (([c0, c1, c2] : List Value).drop 1 |>.take (Try.prog.cellsOf 3)) = some y1 := h1
  rw [show Try.prog.cellsOf 3 = 1 from by kernel_rfl] at h1
  replace h1 : DataW.trod enc Try.prog w base spare held n1 3 [c1] = some y1 := h1
  obtain ⟨n2, y2, h2, z2⟩ := hf 2 _ rfl
  replace h2 : DataW.trod enc Try.prog w base spare held n2 3 (([c0, c1, c2] : List Value).drop 2 |>.take (Try.prog.cellsOf 3)) = some y2 := h2
  rw [show Try.prog.cellsOf 3 = 1 from by kernel_rfl] at h2
  replace h2 : DataW.trod enc Try.prog w base spare held n2 3 [c2] = some y2 := h2
  obtain ⟨x0, e0, _, f0_0⟩ := DataW.trod_int Try.underlying3 h0
  simp only [List.cons.injEq, and_true] at e0
  obtain rfl := e0
  obtain ⟨x1, e1, _, f1_0⟩ := DataW.trod_int Try.underlying3 h1
  simp only [List.cons.injEq, and_true] at e1
  obtain rfl := e1
  obtain ⟨x2, e2, _, f2_0⟩ := DataW.trod_int Try.underlying3 h2
  simp only [List.cons.injEq, and_true] at e2
  obtain rfl := e2
  exact ⟨x0, x1, x2, rfl, f0_0, f1_0, f2_0⟩

theorem open25 {H : Type} {enc : TypeId × Value → H} {w : World} {base : Nat} {spare : Nat → Bool} {held : Bool} {fuel : Nat} {cs : List Value} {x : DataW H × List MemPlace} (h : DataW.trod enc Try.prog w base spare held fuel 25 cs = some x) (hz : Light Try.prog 25 x.1) :
    ∃ vN : Int, ∃ vSet : Bool, cs = [.int .i64 vN, .bool vSet] ∧ (Lit.int .i64 vN).wf = true := by
  obtain ⟨hl, hf⟩ := trod_field_z Try.underlying25 h hz
  rw [show Try.prog.cellsOf 25 = 2 from by kernel_rfl] at hl
  obtain ⟨c0, c1, rfl⟩ := list2 hl
  obtain ⟨n0, y0, h0, z0⟩ := hf 0 _ rfl
  replace h0 : DataW.trod enc Try.prog w base spare held n0 3 (([c0, c1] : List Value).drop 0 |>.take (Try.prog.cellsOf 3)) = some y0 := h0
  rw [show Try.prog.cellsOf 3 = 1 from by kernel_rfl] at h0
  replace h0 : DataW.trod enc Try.prog w base spare held n0 3 [c0] = some y0 := h0
  obtain ⟨n1, y1, h1, z1⟩ := hf 1 _ rfl
  replace h1 : DataW.trod enc Try.prog w base spare held n1 4 (([c0, c1] : List Value).drop 1 |>.take (Try.prog.cellsOf 4)) = some y1 := h1
  rw [show Try.prog.cellsOf 4 = 1 from by kernel_rfl] at h1
  replace h1 : DataW.trod enc Try.prog w base spare held n1 4 [c1] = some y1 := h1
  obtain ⟨x0, e0, _, f0_0⟩ := DataW.trod_int Try.underlying3 h0
  simp only [List.cons.injEq, and_true] at e0
  obtain rfl := e0
  obtain ⟨x1, e1, _⟩ := DataW.trod_bool Try.underlying4 h1
  simp only [List.cons.injEq, and_true] at e1
  obtain rfl := e1
  exact ⟨x0, x1, rfl, f0_0⟩


/-- how many of the first k frames were bad -/
def ups (l : Nat → Bool) : Nat → Nat
  | 0 => 0
  | k + 1 => ups l k + (if l k then 1 else 0)
theorem ups_le (l : Nat → Bool) (k : Nat) : ups l k ≤ k := by
  induction k with
  | zero => exact Nat.le_refl _
  | succ k ih => unfold ups; split <;> omega
theorem ups_true {l : Nat → Bool} {k : Nat} (h : l k = true) : ups l (k + 1) = ups l k + 1 := by
  show ups l k + (if l k then 1 else 0) = _
  rw [if_pos h]
theorem ups_false {l : Nat → Bool} {k : Nat} (h : l k = false) : ups l (k + 1) = ups l k := by
  show ups l k + (if l k then 1 else 0) = _
  rw [h]
  rfl
theorem run_high {u d m n : Int} (h : OkC u d m n) (l : Nat → Bool) (k : Nat) : runN u d m n l k ≤ n + (ups l k : Int) * u := by
  induction k with
  | zero => show n ≤ n + ((0 : Nat) : Int) * u; simp
  | succ k ih =>
    obtain ⟨h1, h2, h3, h4, h5⟩ := h.run l k
    show nxI u d m (runN u d m n l k) (l k) ≤ _
    cases e : l k
    · rw [ups_false e]
      unfold nxI
      rw [if_neg (by decide)]
      have : (0 : Int) ≤ (ups l k : Int) * u := Int.mul_nonneg (by omega) (by omega)
      have := h.2.2.2.1
      split <;> omega
    · rw [ups_true e]
      have q : ((ups l k + 1 : Nat) : Int) * u = (ups l k : Int) * u + u := by
        rw [Int.natCast_add, Int.add_mul]
        simp
      rw [q]
      unfold nxI
      rw [if_pos rfl]
      split <;> omega
theorem run_set {u d m n : Int} {s : Bool} (l : Nat → Bool) (k : Nat) (h : s = true) : runS u d m n s l k = true := by
  induction k with
  | zero => exact h
  | succ k ih =>
    show nxB _ _ (runS u d m n s l k) = true
    rw [ih]
    rfl
theorem ups_mono (l : Nat → Bool) (k : Nat) : ups l k ≤ ups l (k + 1) := by
  show _ ≤ ups l k + (if l k then 1 else 0)
  omega
/-- what is Set that wasn't: some frame brought it to Most -/
theorem run_enough {u d m n : Int} (h : OkC u d m n) (l : Nat → Bool) (k : Nat) (hs : runS u d m n false l k = true) : (0 < ups l k ∧ m ≤ n + (ups l k : Int) * u) ∨ (0 < k ∧ n = m) := by
  induction k with
  | zero => cases hs
  | succ k ih =>
    have hs' : (runS u d m n false l k || runN u d m n l (k + 1) == m) = true := hs
    have hm := ups_mono l k
    have hmu : (ups l k : Int) * u ≤ (ups l (k + 1) : Int) * u := Int.mul_le_mul_of_nonneg_right (by omega) (by have := h.1.1; omega)
    cases e : runS u d m n false l k
    · rw [e, Bool.false_or] at hs'
      have e1 : runN u d m n l (k + 1) = m := by simpa using hs'
      have e2 := run_high h l (k + 1)
      rw [e1] at e2
      rcases Nat.eq_zero_or_pos (ups l (k + 1)) with z | z
      · rw [z] at e2
        simp at e2
        exact Or.inr ⟨by omega, by have := h.2.2.2.2; omega⟩
      · exact Or.inl ⟨z, e2⟩
    · rcases ih e with ⟨a, b⟩ | ⟨a, b⟩
      · exact Or.inl ⟨by omega, by omega⟩
      · exact Or.inr ⟨by omega, b⟩

theorem first_step (w : World) : Calls Try.prog 7 #[.agg #[.int .i64 1, .int .i64 0, .int .i64 1], .agg #[.int .i64 0, .bool false], .bool true] w fun e w' => e = .returned (.tuple #[.agg #[.int .i64 1, .bool true], .int .i64 0]) ∧ Below w.heap.size w w' :=
  step_ok 1 0 1 0 false true w (by decide)

set_option maxHeartbeats 4000000 in
theorem walk_bad (u d m n : Int) (s : Bool) (v : Value) (w : World) (h : ¬ OkC u d m n) :
    Calls Try.prog 5 #[.agg #[.int .i64 u, .int .i64 d, .int .i64 m], .agg #[.int .i64 n, .bool s], v] w fun e w' => e = .returned (.bool true) ∧ Below w.heap.size w w' := by
  have B0 : Hid (_) := pc_new w u d m n s 23 25
  go_enter Try.func5, Try.ntmps5
  go_wp2_with fail
  refine (first_step _).mono ?_
  rintro e w1 ⟨rfl, hb⟩
  have B1 : Hid (_) := B0.out.step hb
  clear hb B0
  obtain ⟨lp, lc, p0, p1, p2, c0, c1⟩ := B1.out.facts
  go_wp2_with fail
  refine (run_bad u d m n s v _ h).mono ?_
  rintro e w2 ⟨rfl, hb⟩
  clear lp lc p0 p1 p2 c0 c1
  have B2 : Hid (_) := (B1.out.alloc (.cells #[.int .i64 1, .bool true] 25)).step hb
  clear hb B1
  go_wp2_with fail
  go_ret
  exact ⟨rfl, (B2.out.alloc _).bel⟩

set_option maxHeartbeats 8000000 in
set_option maxRecDepth 100000 in
theorem walk_ok (u d m n : Int) (s : Bool) (a : Option Addr) (k cap : Nat) (l : Nat → Bool) (w : World) (h : OkC u d m n) (hk : k ≤ 140737488351232)
    (hl : 0 < k → ∃ b off, a = some ⟨b, off, none⟩ ∧ b < w.heap.size ∧ ∀ j : Nat, j < k → w.cell? ⟨b, off + j, none⟩ = some (.bool (l j))) :
    Calls Try.prog 5 #[.agg #[.int .i64 u, .int .i64 d, .int .i64 m], .agg #[.int .i64 n, .bool s], .slice a k cap] w fun e w' => e = .returned (.bool true) ∧ Below w.heap.size w w' := by
  have B0 : Hid (_) := pc_new w u d m n s 23 25
  have HL : Hid (_) := hl
  have HO : Hid (_) := h
  clear hl h
  go_enter Try.func5, Try.ntmps5
  go_wp2_with fail
  refine (first_step _).mono ?_
  rintro e w1 ⟨rfl, hb⟩
  have B1 : Hid (_) := B0.out.step hb
  clear hb B0
  obtain ⟨lp, lc, p0, p1, p2, c0, c1⟩ := B1.out.facts
  go_wp2_with fail
  have B2 : Hid (_) := B1.out.alloc (.cells #[.int .i64 1, .bool true] 25)
  refine (run_ok u d m n s a k cap l _ HO.out hk (fun hp => by
    obtain ⟨b, off, rfl, hb, hc⟩ := HL.out hp
    exact ⟨b, off, rfl, Nat.lt_of_lt_of_le hb B2.out.bel.size, fun j hj => (B2.out.bel.cell (p := ⟨b, off + j, none⟩) hb).trans (hc j hj)⟩)).mono ?_
  rintro e w2 ⟨rfl, hb⟩
  clear lp lc p0 p1 p2 c0 c1
  have B3 : Hid (_) := B2.out.step hb
  clear hb B1 B2
  have B4 : Hid (_) := B3.out.alloc (.cells #[.int .i64 (runN u d m n l k), .bool (runS u d m n s l k)] 25)
  go_wp2_with fail
  go_loopg [12, 49] (k + 1) (fun g t q wr => ∃ j : Nat, q = .int .i64 j ∧ t = .int .i64 (ups l j : Nat) ∧ k - j < g ∧ j ≤ k ∧ wr = w2.alloc (.cells #[.int .i64 (runN u d m n l k), .bool (runS u d m n s l k)] 25))
  case atStart => exact ⟨0, rfl, rfl, by omega, by omega, rfl⟩
  case round =>
    obtain ⟨j, rfl, rfl, hg, hj, rfl⟩ := hrel
    have q1 := ups_le l j
    by_cases hlt : j < k
    · have z1 : (j : Int) < (k : Int) := by omega
      obtain ⟨b, off, rfl, hbl, hcell⟩ := HL.out (by omega)
      have x0 := (B3.out.bel.cell (p := ⟨b, off + j, none⟩) hbl).trans (hcell j hlt)
      have x1 : b < w2.heap.size := Nat.lt_of_lt_of_le hbl B3.out.bel.size
      clear hcell
      cases e : l j
      · have E : Hid (ups l (j + 1) = ups l j) := ups_false e
        rw [e] at x0
        clear e
        go_wp2_with fail
        go_roundg (k - (j + 1) + 1)
        case measure => omega
        case rel => exact ⟨j + 1, by go_num, by rw [E.out], by omega, by omega, rfl⟩
      · have E : Hid (ups l (j + 1) = ups l j + 1) := ups_true e
        rw [e] at x0
        clear e
        go_wp2_with fail
        go_roundg (k - (j + 1) + 1)
        case measure => omega
        case rel => exact ⟨j + 1, by go_num, by rw [E.out]; go_num, by omega, by omega, rfl⟩
    · have z1 : ¬ (j : Int) < (k : Int) := by omega
      obtain rfl : j = k := by omega
      have HE : Hid (runS u d m n false l j = true → (0 < ups l j ∧ m ≤ n + (ups l j : Int) * u) ∨ (0 < j ∧ n = m)) := run_enough HO.out l j
      have HS : Hid (s = true → runS u d m n s l j = true) := run_set l j
      obtain ⟨⟨h1, h2⟩, ⟨h3, h4⟩, ⟨h5, h6⟩, h7, h8⟩ := HO.out
      have h9 := (OkC.run (show OkC u d m n from HO.out) l j).2.2.2
      have h10 := h9.1
      have h11 := h9.2
      clear h9
      obtain ⟨lp, lc, p0, p1, p2, c0, c1⟩ := B3.out.facts
      have q2 : (0 : Int) ≤ (ups l j : Int) * u := Int.mul_nonneg (by omega) (by omega)
      have q3 : (ups l j : Int) * u ≤ 140737488351232 * 1000 := Int.mul_le_mul (by omega) (by omega) (by omega) (by omega)
      generalize ups l j = A at *
      generalize runN u d m n l j = N' at *
      clear HO HL B3
      cases s
      · generalize runS u d m n false l j = S' at *
        clear HS
        rcases Nat.eq_zero_or_pos A with z | z
        · subst z
          by_cases y : 0 < j ∧ n = m
          · obtain ⟨y1, rfl⟩ := y
            have y2 : (0 : Int) < (j : Int) := by omega
            clear HE
            go_wp2_with fail
            go_ret
            exact ⟨rfl, B4.out.bel⟩
          · have hS : S' = false := by
              cases S'
              · rfl
              · rcases HE.out rfl with ⟨q, _⟩ | q
                · exact absurd q (by omega)
                · exact absurd q y
            subst hS
            clear HE
            rcases Nat.eq_zero_or_pos j with y1 | y1
            · subst y1
              go_wp2_with fail
              go_ret
              exact ⟨rfl, B4.out.bel⟩
            · have y2 : (0 : Int) < (j : Int) := by omega
              have y3 : (n == m) = false := by
                simp
                omega
              clear y
              go_wp2_with fail
              go_ret
              exact ⟨rfl, B4.out.bel⟩
        · have z2 : (0 : Int) < (A : Int) := by omega
          rcases Int.lt_or_le (n + (A : Int) * u) m with y | y
          · have y2 : ¬ m ≤ n + (A : Int) * u := by omega
            have y3 : (0 : Int) < (j : Int) := by omega
            have y4 : (n == m) = false := by
              simp
              omega
            have hS : S' = false := by
              cases S'
              · rfl
              · rcases HE.out rfl with ⟨_, q⟩ | ⟨_, q⟩
                · exact absurd q (by omega)
                · exact absurd q (by omega)
            subst hS
            clear HE
            go_wp2_with fail
            go_ret
            exact ⟨rfl, B4.out.bel⟩
          · clear HE
            go_wp2_with fail
            go_ret
            exact ⟨rfl, B4.out.bel⟩
      · generalize runS u d m n true l j = S' at *
        have hS : S' = true := HS.out rfl
        subst hS
        clear HE HS
        go_wp2_with fail
        go_ret
        exact ⟨rfl, B4.out.bel⟩

theorem walk (pUp : Int) (pDown : Int) (pMost : Int) (cN : Int) (cSet : Bool) (bada : Option Addr) (badn badc : Nat) (bad : Nat → Bool) (w : World) (h_pUp : (Lit.int .i64 pUp).wf = true) (h_pDown : (Lit.int .i64 pDown).wf = true) (h_pMost : (Lit.int .i64 pMost).wf = true) (h_cN : (Lit.int .i64 cN).wf = true) (h_bad : RowB w bada badn badc bad) :
    Calls Try.prog 5 #[.agg #[.int .i64 pUp, .int .i64 pDown, .int .i64 pMost], .agg #[.int .i64 cN, .bool cSet], .slice bada badn badc] w fun e w' => e = .returned (.bool true) ∧ Below w.heap.size w w' := by
  obtain ⟨h1, h2, h3, h4, h5⟩ := h_bad
  by_cases h : OkC pUp pDown pMost cN
  · exact walk_ok pUp pDown pMost cN cSet bada badn badc bad w h h3 h5
  · exact walk_bad pUp pDown pMost cN cSet _ w h

/-! ### THE ROW's STEP -/
set_option maxRecDepth 100000 in
theorem lifted (os : Os) (started : os.Started) (H : Type) (enc : TypeId × Value → H) :
    ReturnsInHanded {} Try.checked os 5 .any (Rows.countHeldSpec.pre6 enc Try.prog Try.f5 Rows.countHeldRow.domain false) (Rows.countHeldSpec.post enc Try.prog Try.f5 false true false false) := by
  refine returnsInHanded_of_change_sized (C := Try.checked) own started (by kernel_rfl) Try.func5
    (ChangeSpec.witness6 (enc := enc) (C := Try.checked) false ⟨#[], #[.agg #[.int .i64 0, .int .i64 0, .int .i64 0], .agg #[.int .i64 0, .bool false], .slice none 0 0], []⟩ 8 (by kernel_rfl) (by kernel_rfl) (by kernel_rfl) (by kernel_rfl)) ?_
  intro W base args ds gs before hval0 hW hcnd hsz0 _
  have hval : ∀ (j : Nat) t v, Try.f5.params[j]? = some t → args[j]? = some v → Value.okWide Try.prog W .any base t v := hval0
  have hW' := hW
  obtain ⟨p, q, hA0, hV, rfl, hfz, hnd⟩ := hW
  have hA : DataW.TrodAll enc Try.prog W 0 (fun _ => true) true Try.f5.params.toList args.toList ds p := hA0
  rw [Try.params5] at hA hval
  obtain ⟨v0, vs0, d0, ds0, p0, q0, hargs, rfl, rfl, h0, r0⟩ := trodAll_cons hA
  obtain ⟨v1, vs1, d1, ds1, p1, q1, rfl, rfl, rfl, h1, r1⟩ := trodAll_cons r0
  obtain ⟨v2, vs2, d2, ds2, p2, q2, rfl, rfl, rfl, h2, r2⟩ := trodAll_cons r1
  obtain ⟨rfl, rfl, rfl⟩ := trodAll_nil r2
  obtain rfl : args = #[v0, v1, v2] := by cases args; simp_all
  obtain ⟨rfl, rfl⟩ := trodVars_none hV
  have hz0 : Light Try.prog 23 d0 := light_of hsz0 (j := 0) (by first | rfl | (rw [Try.params5]; rfl)) rfl
  have k0 := h0
  have lt0 : ∀ x ∈ p0, x.block < W.heap.size := by obtain ⟨m, hm⟩ := k0; exact DataW.trod_lt m _ _ _ hm
  obtain ⟨cs0, rfl, _⟩ := okWide_struct Try.underlying23 (hval 0 23 v0 rfl rfl)
  obtain ⟨pUp, pDown, pMost, e0, h_pUp, h_pDown, h_pMost⟩ := (by obtain ⟨fuel, hf⟩ := h0; exact open23 hf hz0 : ∃ pUp : Int, ∃ pDown : Int, ∃ pMost : Int, cs0.toList = [.int .i64 pUp, .int .i64 pDown, .int .i64 pMost] ∧ (Lit.int .i64 pUp).wf = true ∧ (Lit.int .i64 pDown).wf = true ∧ (Lit.int .i64 pMost).wf = true)
  obtain rfl : cs0 = #[.int .i64 pUp, .int .i64 pDown, .int .i64 pMost] := by cases cs0; simp_all
  clear e0
  have hz1 : Light Try.prog 25 d1 := light_of hsz0 (j := 1) (by first | rfl | (rw [Try.params5]; rfl)) rfl
  have k1 := h1
  have lt1 : ∀ x ∈ p1, x.block < W.heap.size := by obtain ⟨m, hm⟩ := k1; exact DataW.trod_lt m _ _ _ hm
  obtain ⟨cs1, rfl, _⟩ := okWide_struct Try.underlying25 (hval 1 25 v1 rfl rfl)
  obtain ⟨cN, cSet, e1, h_cN⟩ := (by obtain ⟨fuel, hf⟩ := h1; exact open25 hf hz1 : ∃ cN : Int, ∃ cSet : Bool, cs1.toList = [.int .i64 cN, .bool cSet] ∧ (Lit.int .i64 cN).wf = true)
  obtain rfl : cs1 = #[.int .i64 cN, .bool cSet] := by cases cs1; simp_all
  clear e1
  have hz2 : Light Try.prog 26 d2 := light_of hsz0 (j := 2) (by first | rfl | (rw [Try.params5]; rfl)) rfl
  have k2 := h2
  have lt2 : ∀ x ∈ p2, x.block < W.heap.size := by obtain ⟨m, hm⟩ := k2; exact DataW.trod_lt m _ _ _ hm
  obtain ⟨bada, badn, badc, rfl⟩ := okWide_slice Try.underlying26 (hval 2 26 v2 rfl rfl)
  obtain ⟨bad, h_bad⟩ : ∃ l, RowB W bada badn badc l := by
    obtain ⟨fuel, hf⟩ := h2
    obtain ⟨a, m, c, l, hcs, hr⟩ := rowB_of Try.underlying26 Try.underlying4 (by kernel_rfl) (by kernel_rfl) hf hz2
    simp [Value.cells] at hcs
    obtain ⟨rfl, rfl, rfl⟩ := hcs
    exact ⟨l, hr⟩
  clear hA0 hval0
  refine (walk pUp pDown pMost cN cSet bada badn badc bad W h_pUp h_pDown h_pMost h_cN h_bad).mono fun e W' ⟨he, bel⟩ => ?_
  subst he
  exact ⟨_, rfl, _, _, _, [], _, [], hW', trodAll_mk1 (shut_bool Try.underlying4 _), (trodAll_cons_mk (Below.trod laidOut (by kernel_rfl) (of_decide_eq_true (by kernel_rfl)) k0 bel lt0) (trodAll_cons_mk (Below.trod laidOut (by kernel_rfl) (of_decide_eq_true (by kernel_rfl)) k1 bel lt1) (trodAll_cons_mk (Below.trod laidOut (by kernel_rfl) (of_decide_eq_true (by kernel_rfl)) k2 bel lt2) trodAll_mk0))), rfl, bel.frame _, fun h => by cases h⟩

theorem over : Rows.countHeldRow.holds Try.pinned (OpenSpec.ofChange Rows.countHeldSpec) :=
  OpenClaim.holds_of_wide 5 Try.f5 rfl rfl rfl rfl rfl rfl rfl ⟨rfl, rfl, rfl, rfl, rfl⟩ rfl rfl rfl rfl rfl (by kernel_rfl) Try.func5 (by kernel_rfl)
    (of_decide_eq_true (by kernel_rfl)) (by unfold Func.isWrapper; first | (rw [if_pos (by decide +kernel)]; kernel_rfl) | (rw [if_neg (by decide +kernel)]; exact ⟨rfl, rfl⟩))
    (fun os started H enc _ => lifted os started H enc)


end Go.Proofs.Ytfdjjhenjkcciaa.countHeld
namespace Go.Proofs.Ytfdjjhenjkcciaa
/-- THE STATEMENT -/
theorem countHeld_holds : Rows.CountHeldSaid := countHeld.over
#print axioms countHeld_holds
end Go.Proofs.Ytfdjjhenjkcciaa
