/-
  Whatever is handed in, the law VoteMost returns true: what more than half are is told, and nothing else. No condition.
-/
import Derived.Test.YtohmejfjmpnadaaVotFun
import Derived.Test.YtohmejfjmpnadaaOpenB
import Derived.ProofKit
import Derived.Deep.RegionWith
import Derived.Laws.EntriesVeiled
namespace Go.Proofs.Ytohmejfjmpnadaa.voteMost
open Go.ChangeShapes Go.WideShapes Go.ChangeAt Go.RowKit
set_option linter.unusedVariables false

theorem own : ownKnob Try.prog.godebug = none := by kernel_rfl
theorem laidOut : laidOutB Try.prog = true := by kernel_rfl


def three : Nat → Int
  | 1 => 7
  | _ => 4
theorem below_drewN {N : Nat} {w0 w : World} (h : Below N w0 w) (q : Nat) : Below N w0 (w.drewN q) := ⟨h.os, h.tape, h.output, h.size, h.block⟩
/-- what lies there: the variable l, in a box of its own -/
structure Mb (w0 : World) (la : Option Addr) (ln lc : Nat) (l : Nat → Int) (w : World) : Prop where
  bel : Below w0.heap.size w0 w
  lt : w0.heap.size < w.heap.size
  box : w.cell? ⟨w0.heap.size, 0, none⟩ = some (.slice la ln lc)
  row : R32 w la ln l
theorem first_maj (w : World) (o : Obj) : Calls Try.prog 9 #[.slice (some ⟨w.heap.size + 1, 0, none⟩) 3 3] ((w.alloc o).alloc (.cells #[.int .i32 4, .int .i32 7, .int .i32 4] 21)) fun r w' => r = .returned (.tuple #[.int .i32 4, .int .i64 0]) ∧ w' = ((w.alloc o).alloc (.cells #[.int .i32 4, .int .i32 7, .int .i32 4] 21)) := by
  refine (majority_any _ 3 3 three 4 0 _ (by omega) (fun _ => ⟨w.heap.size + 1, 0, rfl, by simp, fun j hj => ?_⟩) (Or.inl ⟨rfl, by decide⟩))
  match j, hj with
  | 0, _ => go_simp; rfl
  | 1, _ => go_simp; rfl
  | 2, _ => go_simp; rfl

set_option maxHeartbeats 4000000 in
set_option maxRecDepth 100000 in
theorem walk_all (la : Option Addr) (ln lc : Nat) (l : Nat → Int) (x : Int) (w : World) (h : R32 w la ln l) :
    Calls Try.prog 5 #[.slice la ln lc, .int .i32 x] w fun e w' => e = .returned (.bool true) ∧ Below w.heap.size w w' := by
  have hmf : ∀ (fn : Fn) (first cap : Array Value) (w : World), (Instr.makeFunc fn first cap).run Try.prog w = .ok (.func fn first cap) w := fun _ _ _ _ => rfl
  have C4 := first_maj
  have HW : Hid (Mb w la ln lc l ((w.alloc (.cells #[.slice la ln lc] 22)).alloc (.cells #[.int .i32 4, .int .i32 7, .int .i32 4] 21))) := by
    have hb : Below w.heap.size w ((w.alloc (.cells #[.slice la ln lc] 22)).alloc (.cells #[.int .i32 4, .int .i32 7, .int .i32 4] 21)) := ((Below.refl _ w).alloc (Nat.le_refl _) _).alloc (by simp) _
    exact ⟨hb, by simp; omega, by go_simp, h.step hb⟩
  clear h
  go_enter Try.func5, Try.ntmps5
  go_wp2_with fail
  refine (C4 w _).mono ?_
  rintro r w1 ⟨rfl, hw1⟩
  rw [← hw1] at HW
  clear hw1 C4
  have y0 := HW.out.box
  go_wp2_with fail
  rcases Nat.lt_or_ge 64 ln with hl | hl
  · refine (majority_large la ln lc hl w1).mono ?_
    rintro r w2 ⟨rfl, rfl⟩
    have z0 : (64 : Int) < (ln : Int) := by omega
    go_wp2_with fail
    go_ret
    exact ⟨rfl, HW.out.bel⟩
  · obtain ⟨m, E, hM⟩ := maj_there l ln
    refine (majority_any la ln lc l m E w1 hl HW.out.row hM).mono ?_
    rintro r w2 ⟨rfl, rfl⟩
    have HW2 : Hid (Mb w la ln lc l (w2.alloc (.cells #[.func (.func 14) #[] #[.pointer (some ⟨w.heap.size, 0, none⟩)]] 35))) := by
      have hb : Below w2.heap.size w2 (w2.alloc (.cells #[.func (.func 14) #[] #[.pointer (some ⟨w.heap.size, 0, none⟩)]] 35)) := (Below.refl _ w2).alloc (Nat.le_refl _) _
      exact ⟨HW.out.bel.trans (hb.mono HW.out.bel.size), Nat.lt_of_lt_of_le HW.out.lt hb.size, (hb.cell (p := ⟨w.heap.size, 0, none⟩) HW.out.lt).trans HW.out.box, HW.out.row.step hb⟩
    have HF : Hid ((w2.alloc (.cells #[.func (.func 14) #[] #[.pointer (some ⟨w.heap.size, 0, none⟩)]] 35)).cell? ⟨w2.heap.size, 0, none⟩ = some (.func (.func 14) #[] #[.pointer (some ⟨w.heap.size, 0, none⟩)])) := by show _ = _; go_simp
    obtain ⟨f, hf⟩ : ∃ f : Int → Nat, ∀ y, f y = cnt (eqI y) l ln := ⟨_, fun _ => rfl⟩
    have Hf : Hid (∀ y, f y = cnt (eqI y) l ln) := hf
    have qx : f x ≤ 64 := by rw [hf]; have := cnt_le (eqI x) l ln; omega
    have qm : f m ≤ 64 := by rw [hf]; have := cnt_le (eqI m) l ln; omega
    clear HW
    rcases hM with ⟨rfl, h2⟩ | ⟨rfl, rfl, h2⟩
    · have z1 : (ln : Int) < 2 * (f m : Int) := by rw [hf]; omega
      by_cases e : x = m
      · subst e
        clear h2 hf
        go_wp2_with fail
        generalize w2.alloc (.cells #[.func (.func 14) #[] #[.pointer (some ⟨w.heap.size, 0, none⟩)]] 35) = W2 at HW2 HF ⊢
        have C : ∀ y d, Calls Try.prog 14 #[.int .i32 y, .pointer (some ⟨w.heap.size, 0, none⟩)] (W2.drewN d) fun e w' => e = .returned (.int .i64 (f y : Nat)) ∧ w' = W2.drewN d := fun y d => by
          rw [Hf.out y]
          exact have_any w.heap.size la ln lc l y (W2.drewN d) hl HW2.out.box HW2.out.row
        have y1 := HW2.out.box
        have y2 := HF.out
        generalize w2.heap.size = F at *
        clear y0 HF
        go_quiet ((go_at_call 14; exact (C _ _).mono fun _ _ h => ⟨h.1, _, h.2⟩))
        go_wp2
        go_ret
        exact ⟨rfl, below_drewN HW2.out.bel _⟩
      · have z2 : (x == m) = false := by simpa using e
        have z3 : 2 * (f x : Int) ≤ (ln : Int) := by
          have := cnt_two l e ln
          rw [← hf, ← hf] at this
          omega
        have ZD : Hid (decide (2 * (f x : Int) ≤ (ln : Int)) = true) := decide_eq_true z3
        clear h2 hf e
        go_wp2_with fail
        generalize w2.alloc (.cells #[.func (.func 14) #[] #[.pointer (some ⟨w.heap.size, 0, none⟩)]] 35) = W2 at HW2 HF ⊢
        have C : ∀ y d, Calls Try.prog 14 #[.int .i32 y, .pointer (some ⟨w.heap.size, 0, none⟩)] (W2.drewN d) fun e w' => e = .returned (.int .i64 (f y : Nat)) ∧ w' = W2.drewN d := fun y d => by
          rw [Hf.out y]
          exact have_any w.heap.size la ln lc l y (W2.drewN d) hl HW2.out.box HW2.out.row
        have y1 := HW2.out.box
        have y2 := HF.out
        generalize w2.heap.size = F at *
        clear y0 HF
        go_quiet ((go_at_call 14; exact (C _ _).mono fun _ _ h => ⟨h.1, _, h.2⟩))
        go_wp2
        go_ret
        exact ⟨by first | rfl | (rw [ZD.out]; rfl), below_drewN HW2.out.bel _⟩
    · have z3 : 2 * (f x : Int) ≤ (ln : Int) := by rw [hf]; have := h2 x; omega
      have HS : Hid (∀ y, 2 * cnt (eqI y) l ln ≤ ln) := h2
      have ZD : Hid (decide (2 * (f x : Int) ≤ (ln : Int)) = true) := decide_eq_true z3
      clear h2 hf
      go_wp2_with fail
      generalize w2.alloc (.cells #[.func (.func 14) #[] #[.pointer (some ⟨w.heap.size, 0, none⟩)]] 35) = W2 at HW2 HF ⊢
      have C : ∀ y d, Calls Try.prog 14 #[.int .i32 y, .pointer (some ⟨w.heap.size, 0, none⟩)] (W2.drewN d) fun e w' => e = .returned (.int .i64 (f y : Nat)) ∧ w' = W2.drewN d := fun y d => by
        rw [Hf.out y]
        exact have_any w.heap.size la ln lc l y (W2.drewN d) hl HW2.out.box HW2.out.row
      have y1 := HW2.out.box
      have y2 := HF.out
      have CF : ∀ d, Calls Try.prog 15 #[.slice la ln lc, .func (.func 16) #[] #[.pointer (some ⟨w2.heap.size, 0, none⟩), .pointer (some ⟨w.heap.size, 0, none⟩)]] (W2.drewN d) fun e w' => e = .returned (.bool false) ∧ ∃ d2, w' = (W2.drewN d).drewN d2 := fun d => containsFunc_no w.heap.size w2.heap.size la ln lc l (W2.drewN d) hl HW2.out.box HF.out HW2.out.row HS.out
      generalize w2.heap.size = F at *
      clear y0 HF
      go_quiet (first | (go_at_call 14; exact (C _ _).mono fun _ _ h => ⟨h.1, _, h.2⟩) | (go_at_call 15; exact (CF _).mono fun _ _ h => ⟨h.1, by obtain ⟨d2, h2⟩ := h.2; exact ⟨_, h2.trans (World.drewN_drewN _ _ _)⟩⟩))
      go_wp2
      go_ret
      exact ⟨by first | rfl | (rw [ZD.out]; rfl), below_drewN HW2.out.bel _⟩

theorem walk (la : Option Addr) (ln lc : Nat) (l : Nat → Int) (x : Int) (w : World) (h_l : RowZ .i32 4 w la ln lc l) (h_x : (Lit.int .i32 x).wf = true) :
    Calls Try.prog 5 #[.slice la ln lc, .int .i32 x] w fun e w' => e = .returned (.bool true) ∧ Below w.heap.size w w' := walk_all la ln lc l x w h_l.1.2.2.2

/-! ### THE ROW's STEP -/
set_option maxRecDepth 100000 in
theorem lifted (os : Os) (started : os.Started) (H : Type) (enc : TypeId × Value → H) :
    ReturnsInHanded {} Try.checked os 5 .any (Rows.voteMostSpec.pre6 enc Try.prog Try.f5 Rows.voteMostRow.domain false) (Rows.voteMostSpec.post enc Try.prog Try.f5 false true false false) := by
  refine returnsInHanded_of_change_sized (C := Try.checked) own started (by kernel_rfl) Try.func5
    (ChangeSpec.witness6 (enc := enc) (C := Try.checked) false ⟨#[], #[.slice none 0 0, .int .i32 0], []⟩ 8 (by kernel_rfl) (by kernel_rfl) (by kernel_rfl) (by kernel_rfl)) ?_
  intro W base args ds gs before hval0 hW hcnd hsz0 _
  have hval : ∀ (j : Nat) t v, Try.f5.params[j]? = some t → args[j]? = some v → Value.okWide Try.prog W .any base t v := hval0
  have hW' := hW
  obtain ⟨p, q, hA0, hV, rfl, hfz, hnd⟩ := hW
  have hA : DataW.TrodAll enc Try.prog W 0 (fun _ => true) true Try.f5.params.toList args.toList ds p := hA0
  rw [Try.params5] at hA hval
  obtain ⟨v0, vs0, d0, ds0, p0, q0, hargs, rfl, rfl, h0, r0⟩ := trodAll_cons hA
  obtain ⟨v1, vs1, d1, ds1, p1, q1, rfl, rfl, rfl, h1, r1⟩ := trodAll_cons r0
  obtain ⟨rfl, rfl, rfl⟩ := trodAll_nil r1
  obtain rfl : args = #[v0, v1] := by cases args; simp_all
  obtain ⟨rfl, rfl⟩ := trodVars_none hV
  have hz0 : Light Try.prog 22 d0 := light_of hsz0 (j := 0) (by first | rfl | (rw [Try.params5]; rfl)) rfl
  have k0 := h0
  have lt0 : ∀ x ∈ p0, x.block < W.heap.size := by obtain ⟨m, hm⟩ := k0; exact DataW.trod_lt m _ _ _ hm
  obtain ⟨la, ln, lc, rfl⟩ := okWide_slice Try.underlying22 (hval 0 22 v0 rfl rfl)
  obtain ⟨l, h_l⟩ : ∃ l, RowZ .i32 4 W la ln lc l := by
    obtain ⟨fuel, hf⟩ := h0
    obtain ⟨a, m, c, l, hcs, hr⟩ := rowZ_of Try.underlying22 Try.underlying21 (by kernel_rfl) (by kernel_rfl) hf hz0
    simp [Value.cells] at hcs
    obtain ⟨rfl, rfl, rfl⟩ := hcs
    exact ⟨l, hr⟩
  have hz1 : Light Try.prog 21 d1 := light_of hsz0 (j := 1) (by first | rfl | (rw [Try.params5]; rfl)) rfl
  have k1 := h1
  have lt1 : ∀ x ∈ p1, x.block < W.heap.size := by obtain ⟨m, hm⟩ := k1; exact DataW.trod_lt m _ _ _ hm
  obtain ⟨x, rfl, rfl, rfl, h_x⟩ := open_int Try.underlying21 (hval 1 21 v1 rfl rfl) h1
  clear hA0 hval0
  refine (walk la ln lc l x W h_l h_x).mono fun e W' ⟨he, bel⟩ => ?_
  subst he
  exact ⟨_, rfl, _, _, _, [], _, [], hW', trodAll_mk1 (shut_bool Try.underlying4 _), (trodAll_cons_mk (Below.trod laidOut (by kernel_rfl) (of_decide_eq_true (by kernel_rfl)) k0 bel lt0) (trodAll_cons_mk (Below.trod laidOut (by kernel_rfl) (of_decide_eq_true (by kernel_rfl)) k1 bel lt1) trodAll_mk0)), rfl, bel.frame _, fun h => by cases h⟩

theorem over : Rows.voteMostRow.holds Try.pinned (OpenSpec.ofChange Rows.voteMostSpec) :=
  OpenClaim.holds_of_wide 5 Try.f5 rfl rfl rfl rfl rfl rfl rfl ⟨rfl, rfl, rfl, rfl, rfl⟩ rfl rfl rfl rfl rfl (by kernel_rfl) Try.func5 (by kernel_rfl)
    (of_decide_eq_true (by kernel_rfl)) (by unfold Func.isWrapper; first | (rw [if_pos (by decide +kernel)]; kernel_rfl) | (rw [if_neg (by decide +kernel)]; exact ⟨rfl, rfl⟩))
    (fun os started H enc _ => lifted os started H enc)


end Go.Proofs.Ytohmejfjmpnadaa.voteMost
namespace Go.Proofs.Ytohmejfjmpnadaa
/-- THE STATEMENT -/
theorem voteMost_holds : Rows.VoteMostSaid := voteMost.over
#print axioms voteMost_holds
end Go.Proofs.Ytohmejfjmpnadaa
