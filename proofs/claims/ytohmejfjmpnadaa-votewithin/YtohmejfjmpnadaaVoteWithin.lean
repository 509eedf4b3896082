/-
  Whatever is handed in, the law VoteWithin returns true: if more than half of those that are good lie between two numbers the middle one does. No condition.
-/
import Derived.Test.YtohmejfjmpnadaaVotMid
import Derived.Test.YtohmejfjmpnadaaOpenB
import Derived.ProofKit
namespace Go.Proofs.Ytohmejfjmpnadaa.voteWithin
open Go.ChangeShapes Go.WideShapes Go.ChangeAt Go.RowKit
set_option linter.unusedVariables false

theorem own : ownKnob Try.prog.godebug = none := by kernel_rfl
theorem laidOut : laidOutB Try.prog = true := by kernel_rfl


def inB (lo hi : Int) : Int → Bool := fun x => decide (lo ≤ x ∧ x ≤ hi)
/-- how many of the good ones lie between -/
def inC (l : Nat → Int) (ok : Nat → Bool) (lo hi : Int) (k : Nat) : Nat := (pick l ok k).countP (inB lo hi)
theorem inC_in {l : Nat → Int} {ok : Nat → Bool} {lo hi : Int} {k : Nat} (h : ok k = true) (h1 : lo ≤ l k) (h2 : l k ≤ hi) : inC l ok lo hi (k + 1) = inC l ok lo hi k + 1 := by
  unfold inC
  rw [pick_yes h, List.countP_append, List.countP_singleton, if_pos (show inB lo hi (l k) = true from decide_eq_true ⟨h1, h2⟩)]
theorem inC_out {l : Nat → Int} {ok : Nat → Bool} {lo hi : Int} {k : Nat} (h : ok k = true) (h1 : ¬ (lo ≤ l k ∧ l k ≤ hi)) : inC l ok lo hi (k + 1) = inC l ok lo hi k := by
  unfold inC
  rw [pick_yes h, List.countP_append, List.countP_singleton, if_neg (by unfold inB; rw [decide_eq_false h1]; decide)]
  rfl
theorem inC_not {l : Nat → Int} {ok : Nat → Bool} {lo hi : Int} {k : Nat} (h : ok k = false) : inC l ok lo hi (k + 1) = inC l ok lo hi k := by
  unfold inC
  rw [pick_no h]
theorem inC_le (l : Nat → Int) (ok : Nat → Bool) (lo hi : Int) (k : Nat) : inC l ok lo hi k ≤ (pick l ok k).length := List.countP_le_length
theorem len_yes {l : Nat → Int} {ok : Nat → Bool} {k : Nat} (h : ok k = true) : (pick l ok (k + 1)).length = (pick l ok k).length + 1 := by rw [pick_yes h, List.length_append]; rfl
theorem len_no {l : Nat → Int} {ok : Nat → Bool} {k : Nat} (h : ok k = false) : (pick l ok (k + 1)).length = (pick l ok k).length := by rw [pick_no h]
theorem cnt_both {p q : Int → Bool} (l : Nat → Int) (h : ∀ x, p x = true → q x = false) (n : Nat) : cnt p l n + cnt q l n ≤ n := by
  induction n with
  | zero => exact Nat.le_refl _
  | succ n ih =>
    rw [cnt_succ, cnt_succ]
    cases e : p (l n)
    · simp; split <;> omega
    · rw [h _ e]; simp; omega
/-- the middle one lies where more than half lie -/
theorem mid_between {l : Nat → Int} {ok : Nat → Bool} {lo hi m : Int} {n : Nat} (h : IsMid (kept l ok n) (pick l ok n).length m) (h2 : (pick l ok n).length < 2 * inC l ok lo hi n) : lo ≤ m ∧ m ≤ hi := by
  have e : cnt (inB lo hi) (kept l ok n) (pick l ok n).length = inC l ok lo hi n := cnt_kept _ _
  obtain ⟨m1, m2⟩ := h
  generalize inC l ok lo hi n = A at *
  generalize (pick l ok n).length = K at *
  generalize kept l ok n = g at *
  constructor
  · rcases Int.lt_or_le m lo with q | q
    · have := cnt_both (p := leB m) (q := inB lo hi) g (fun x hx => decide_eq_false (by have := of_decide_eq_true hx; omega)) K
      omega
    · exact q
  · rcases Int.lt_or_le hi m with q | q
    · have := cnt_imp (p := inB lo hi) (q := ltB m) g (fun x hx => decide_eq_true (by have := (of_decide_eq_true hx).2; omega)) K
      omega
    · exact q

def five : Nat → Int
  | 0 => 5
  | 1 => 900
  | _ => 6
theorem first_mid (w : World) : Calls Try.prog 7 #[.slice (some ⟨w.heap.size, 0, none⟩) 3 3, .slice (some ⟨w.heap.size + 1, 0, none⟩) 3 3] ((w.alloc (.cells #[.int .i32 5, .int .i32 900, .int .i32 6] 21)).alloc (.cells #[.bool true, .bool true, .bool true] 4)) fun r w' => r = .returned (.tuple #[.int .i32 6, .int .i64 0]) ∧ Below w.heap.size w w' := by
  refine (mid_any _ _ 3 3 3 3 five (fun _ => true) 6 0 _ (fun _ => ⟨w.heap.size, 0, rfl, by simp; omega, fun j hj => ?_⟩) (fun _ => ⟨w.heap.size + 1, 0, rfl, by simp, fun j hj => ?_⟩) (Or.inr (Or.inr (Or.inr ⟨by omega, rfl, by decide, rfl, by decide, by decide⟩)))).mono ?_
  · match j, hj with
    | 0, _ => go_simp; rfl
    | 1, _ => go_simp; rfl
    | 2, _ => go_simp; rfl
  · match j, hj with
    | 0, _ => go_simp
    | 1, _ => go_simp
    | 2, _ => go_simp
  · rintro r w1 ⟨rfl, hb⟩
    exact ⟨rfl, (((Below.refl _ w).alloc (Nat.le_refl _) _).alloc (by simp) _).trans (hb.mono (by simp; omega))⟩

set_option maxHeartbeats 4000000 in
set_option maxRecDepth 100000 in
theorem walk_all (la : Option Addr) (ln lc : Nat) (l : Nat → Int) (oka : Option Addr) (okn okc : Nat) (ok : Nat → Bool) (a : Int) (b : Int) (w : World) (h : R32 w la ln l) (ho : RBo w oka okn ok) :
    Calls Try.prog 4 #[.slice la ln lc, .slice oka okn okc, .int .i32 a, .int .i32 b] w fun e w' => e = .returned (.bool true) ∧ Below w.heap.size w w' := by
  obtain ⟨m, E, hM⟩ := midS_there l ln ok okn
  have HM : Hid (MidS l ln ok okn m E) := hM
  have HR : Hid (R32 w la ln l) := h
  have HO : Hid (RBo w oka okn ok) := ho
  clear h ho hM
  obtain ⟨lo, hi, hmin, hmax⟩ : ∃ lo hi : Int, (∀ (ts : Array TypeId) (t : TypeId) (W : World), (Builtin.min_ ts t #[.int .i32 a, .int .i32 b]).run Try.prog W = .ok (.int .i32 lo) W) ∧ ∀ (ts : Array TypeId) (t : TypeId) (W : World), (Builtin.max_ ts t #[.int .i32 a, .int .i32 b]).run Try.prog W = .ok (.int .i32 hi) W :=
    ⟨_, _, fun ts t W => run_min_int2 W ts t .i32 .i32 a b, fun ts t W => run_max_int2 W ts t .i32 .i32 a b⟩
  have C4 := first_mid
  go_enter Try.func4, Try.ntmps4
  go_wp2_with fail
  refine (C4 w).mono ?_
  rintro r w1 ⟨rfl, hb⟩
  have B1 : Hid (Below w.heap.size w w1) := hb
  clear hb C4
  go_wp2_with fail
  refine (mid_any la oka ln lc okn okc l ok m E w1 (HR.out.step B1.out) (HO.out.step B1.out) HM.out).mono ?_
  rintro r w2 ⟨rfl, hb⟩
  have B2 : Hid (Below w.heap.size w w2) := B1.out.trans (hb.mono B1.out.size)
  clear hb B1
  by_cases h0 : E = 0
  · obtain ⟨g1, g2, g3, g4, g5⟩ := HM.out.good h0
    subst h0 g2
    have HG : Hid (IsMid (kept l ok okn) (pick l ok okn).length m) := g4
    have HR2 : Hid (R32 w2 la okn l) := HR.out.step B2.out
    have HO2 : Hid (RBo w2 oka okn ok) := HO.out.step B2.out
    clear g3 g4 g5 HM HR HO
    go_wp2_with fail
    go_loopg [15, 16, 49] (okn + 1) (fun g s t u wr => ∃ q : Nat, s = .int .i64 (inC l ok lo hi q : Nat) ∧ t = .int .i64 ((pick l ok q).length : Nat) ∧ u = .int .i64 q ∧ okn - q < g ∧ q ≤ okn ∧ wr = w2)
    case atStart => exact ⟨0, rfl, rfl, rfl, by omega, by omega, rfl⟩
    case round =>
      obtain ⟨q, rfl, rfl, rfl, hg, hq, rfl⟩ := hrel
      have c1 := pick_le l ok q
      have c2 := inC_le l ok lo hi q
      by_cases hlt : q < okn
      · have z1 : (q : Int) < (okn : Int) := by omega
        obtain ⟨b1, o1, rfl, hb1, hc1⟩ := HR2.out (by omega)
        obtain ⟨b2, o2, rfl, hb2, hc2⟩ := HO2.out (by omega)
        have x0 := hc1 q hlt
        have x1 := hc2 q hlt
        clear hc1 hc2
        cases e : ok q
        · have E1 : Hid (inC l ok lo hi (q + 1) = inC l ok lo hi q ∧ (pick l ok (q + 1)).length = (pick l ok q).length) := ⟨inC_not e, len_no e⟩
          rw [e] at x1
          clear e
          generalize inC l ok lo hi q = A at c2 E1 ⊢
          generalize (pick l ok q).length = D at c1 c2 E1 ⊢
          go_wp2_with fail
          go_roundg (okn - (q + 1) + 1)
          case measure => omega
          case rel => exact ⟨q + 1, by rw [E1.out.1], by rw [E1.out.2], by go_num, by omega, by omega, rfl⟩
        · rw [e] at x1
          by_cases h1 : lo ≤ l q
          · by_cases h2 : l q ≤ hi
            · have E1 : Hid (inC l ok lo hi (q + 1) = inC l ok lo hi q + 1 ∧ (pick l ok (q + 1)).length = (pick l ok q).length + 1) := ⟨inC_in e h1 h2, len_yes e⟩
              clear e
              generalize inC l ok lo hi q = A at c2 E1 ⊢
              generalize (pick l ok q).length = D at c1 c2 E1 ⊢
              generalize l q = y at x0 h1 h2
              go_wp2_with fail
              go_roundg (okn - (q + 1) + 1)
              case measure => omega
              case rel => exact ⟨q + 1, by rw [E1.out.1]; go_num, by rw [E1.out.2]; go_num, by go_num, by omega, by omega, rfl⟩
            · have E1 : Hid (inC l ok lo hi (q + 1) = inC l ok lo hi q ∧ (pick l ok (q + 1)).length = (pick l ok q).length + 1) := ⟨inC_out e (fun h => h2 h.2), len_yes e⟩
              clear e
              generalize inC l ok lo hi q = A at c2 E1 ⊢
              generalize (pick l ok q).length = D at c1 c2 E1 ⊢
              generalize l q = y at x0 h1 h2
              go_wp2_with fail
              go_roundg (okn - (q + 1) + 1)
              case measure => omega
              case rel => exact ⟨q + 1, by rw [E1.out.1], by rw [E1.out.2]; go_num, by go_num, by omega, by omega, rfl⟩
          · have E1 : Hid (inC l ok lo hi (q + 1) = inC l ok lo hi q ∧ (pick l ok (q + 1)).length = (pick l ok q).length + 1) := ⟨inC_out e (fun h => h1 h.1), len_yes e⟩
            clear e
            generalize inC l ok lo hi q = A at c2 E1 ⊢
            generalize (pick l ok q).length = D at c1 c2 E1 ⊢
            generalize l q = y at x0 h1
            go_wp2_with fail
            go_roundg (okn - (q + 1) + 1)
            case measure => omega
            case rel => exact ⟨q + 1, by rw [E1.out.1], by rw [E1.out.2]; go_num, by go_num, by omega, by omega, rfl⟩
      · have z1 : ¬ (q : Int) < (okn : Int) := by omega
        obtain rfl : q = okn := by omega
        by_cases h2 : (pick l ok q).length < 2 * inC l ok lo hi q
        · obtain ⟨m1, m2⟩ := mid_between HG.out h2
          have z2 : ¬ 2 * (inC l ok lo hi q : Int) ≤ ((pick l ok q).length : Int) := by omega
          clear h2 HG
          generalize inC l ok lo hi q = A at *
          generalize (pick l ok q).length = D at *
          go_wp2_with fail
          go_ret
          exact ⟨rfl, B2.out⟩
        · have z2 : 2 * (inC l ok lo hi q : Int) ≤ ((pick l ok q).length : Int) := by omega
          clear h2 HG
          generalize inC l ok lo hi q = A at *
          generalize (pick l ok q).length = D at *
          go_wp2_with fail
          go_ret
          exact ⟨rfl, B2.out⟩
  · obtain rfl := HM.out.bad h0
    have q : (E != 0) = true := by simpa using h0
    clear h0 HM
    go_wp2_with fail
    go_ret
    exact ⟨rfl, B2.out⟩

theorem walk (la : Option Addr) (ln lc : Nat) (l : Nat → Int) (oka : Option Addr) (okn okc : Nat) (ok : Nat → Bool) (a : Int) (b : Int) (w : World) (h_l : RowZ .i32 4 w la ln lc l) (h_ok : RowB w oka okn okc ok) (h_a : (Lit.int .i32 a).wf = true) (h_b : (Lit.int .i32 b).wf = true) :
    Calls Try.prog 4 #[.slice la ln lc, .slice oka okn okc, .int .i32 a, .int .i32 b] w fun e w' => e = .returned (.bool true) ∧ Below w.heap.size w w' :=
  walk_all la ln lc l oka okn okc ok a b w h_l.1.2.2.2 h_ok.2.2.2.2

/-! ### THE ROW's STEP -/
set_option maxRecDepth 100000 in
theorem lifted (os : Os) (started : os.Started) (H : Type) (enc : TypeId × Value → H) :
    ReturnsInHanded {} Try.checked os 4 .any (Rows.voteWithinSpec.pre6 enc Try.prog Try.f4 Rows.voteWithinRow.domain false) (Rows.voteWithinSpec.post enc Try.prog Try.f4 false true false false) := by
  refine returnsInHanded_of_change_sized (C := Try.checked) own started (by kernel_rfl) Try.func4
    (ChangeSpec.witness6 (enc := enc) (C := Try.checked) false ⟨#[], #[.slice none 0 0, .slice none 0 0, .int .i32 0, .int .i32 0], []⟩ 8 (by kernel_rfl) (by kernel_rfl) (by kernel_rfl) (by kernel_rfl)) ?_
  intro W base args ds gs before hval0 hW hcnd hsz0 _
  have hval : ∀ (j : Nat) t v, Try.f4.params[j]? = some t → args[j]? = some v → Value.okWide Try.prog W .any base t v := hval0
  have hW' := hW
  obtain ⟨p, q, hA0, hV, rfl, hfz, hnd⟩ := hW
  have hA : DataW.TrodAll enc Try.prog W 0 (fun _ => true) true Try.f4.params.toList args.toList ds p := hA0
  rw [Try.params4] at hA hval
  obtain ⟨v0, vs0, d0, ds0, p0, q0, hargs, rfl, rfl, h0, r0⟩ := trodAll_cons hA
  obtain ⟨v1, vs1, d1, ds1, p1, q1, rfl, rfl, rfl, h1, r1⟩ := trodAll_cons r0
  obtain ⟨v2, vs2, d2, ds2, p2, q2, rfl, rfl, rfl, h2, r2⟩ := trodAll_cons r1
  obtain ⟨v3, vs3, d3, ds3, p3, q3, rfl, rfl, rfl, h3, r3⟩ := trodAll_cons r2
  obtain ⟨rfl, rfl, rfl⟩ := trodAll_nil r3
  obtain rfl : args = #[v0, v1, v2, v3] := by cases args; simp_all
  obtain ⟨rfl, rfl⟩ := trodVars_none hV
  have hz0 : Light Try.prog 22 d0 := light_of hsz0 (j := 0) (by first | rfl | (rw [Try.params4]; rfl)) rfl
  have k0 := h0
  have lt0 : ∀ x ∈ p0, x.block < W.heap.size := by obtain ⟨m, hm⟩ := k0; exact DataW.trod_lt m _ _ _ hm
  obtain ⟨la, ln, lc, rfl⟩ := okWide_slice Try.underlying22 (hval 0 22 v0 rfl rfl)
  obtain ⟨l, h_l⟩ : ∃ l, RowZ .i32 4 W la ln lc l := by
    obtain ⟨fuel, hf⟩ := h0
    obtain ⟨a, m, c, l, hcs, hr⟩ := rowZ_of Try.underlying22 Try.underlying21 (by kernel_rfl) (by kernel_rfl) hf hz0
    simp [Value.cells] at hcs
    obtain ⟨rfl, rfl, rfl⟩ := hcs
    exact ⟨l, hr⟩
  have hz1 : Light Try.prog 23 d1 := light_of hsz0 (j := 1) (by first | rfl | (rw [Try.params4]; rfl)) rfl
  have k1 := h1
  have lt1 : ∀ x ∈ p1, x.block < W.heap.size := by obtain ⟨m, hm⟩ := k1; exact DataW.trod_lt m _ _ _ hm
  obtain ⟨oka, okn, okc, rfl⟩ := okWide_slice Try.underlying23 (hval 1 23 v1 rfl rfl)
  obtain ⟨ok, h_ok⟩ : ∃ l, RowB W oka okn okc l := by
    obtain ⟨fuel, hf⟩ := h1
    obtain ⟨a, m, c, l, hcs, hr⟩ := rowB_of Try.underlying23 Try.underlying4 (by kernel_rfl) (by kernel_rfl) hf hz1
    simp [Value.cells] at hcs
    obtain ⟨rfl, rfl, rfl⟩ := hcs
    exact ⟨l, hr⟩
  have hz2 : Light Try.prog 21 d2 := light_of hsz0 (j := 2) (by first | rfl | (rw [Try.params4]; rfl)) rfl
  have k2 := h2
  have lt2 : ∀ x ∈ p2, x.block < W.heap.size := by obtain ⟨m, hm⟩ := k2; exact DataW.trod_lt m _ _ _ hm
  obtain ⟨a, rfl, rfl, rfl, h_a⟩ := open_int Try.underlying21 (hval 2 21 v2 rfl rfl) h2
  have hz3 : Light Try.prog 21 d3 := light_of hsz0 (j := 3) (by first | rfl | (rw [Try.params4]; rfl)) rfl
  have k3 := h3
  have lt3 : ∀ x ∈ p3, x.block < W.heap.size := by obtain ⟨m, hm⟩ := k3; exact DataW.trod_lt m _ _ _ hm
  obtain ⟨b, rfl, rfl, rfl, h_b⟩ := open_int Try.underlying21 (hval 3 21 v3 rfl rfl) h3
  clear hA0 hval0
  refine (walk la ln lc l oka okn okc ok a b W h_l h_ok h_a h_b).mono fun e W' ⟨he, bel⟩ => ?_
  subst he
  exact ⟨_, rfl, _, _, _, [], _, [], hW', trodAll_mk1 (shut_bool Try.underlying4 _), (trodAll_cons_mk (Below.trod laidOut (by kernel_rfl) (of_decide_eq_true (by kernel_rfl)) k0 bel lt0) (trodAll_cons_mk (Below.trod laidOut (by kernel_rfl) (of_decide_eq_true (by kernel_rfl)) k1 bel lt1) (trodAll_cons_mk (Below.trod laidOut (by kernel_rfl) (of_decide_eq_true (by kernel_rfl)) k2 bel lt2) (trodAll_cons_mk (Below.trod laidOut (by kernel_rfl) (of_decide_eq_true (by kernel_rfl)) k3 bel lt3) trodAll_mk0)))), rfl, bel.frame _, fun h => by cases h⟩

theorem over : Rows.voteWithinRow.holds Try.pinned (OpenSpec.ofChange Rows.voteWithinSpec) :=
  OpenClaim.holds_of_wide 4 Try.f4 rfl rfl rfl rfl rfl rfl rfl ⟨rfl, rfl, rfl, rfl, rfl⟩ rfl rfl rfl rfl rfl (by kernel_rfl) Try.func4 (by kernel_rfl)
    (of_decide_eq_true (by kernel_rfl)) (by unfold Func.isWrapper; first | (rw [if_pos (by decide +kernel)]; kernel_rfl) | (rw [if_neg (by decide +kernel)]; exact ⟨rfl, rfl⟩))
    (fun os started H enc _ => lifted os started H enc)


end Go.Proofs.Ytohmejfjmpnadaa.voteWithin
namespace Go.Proofs.Ytohmejfjmpnadaa
/-- THE STATEMENT -/
theorem voteWithin_holds : Rows.VoteWithinSaid := voteWithin.over
#print axioms voteWithin_holds
end Go.Proofs.Ytohmejfjmpnadaa
