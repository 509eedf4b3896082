/-
  Whatever is handed in, the law VoteFar returns true: whoever is far is farther from the middle one than all that aren't; with a great enough bound nobody is. No condition.
-/
import Derived.Test.YtohmejfjmpnadaaVotFars
import Derived.Test.YtohmejfjmpnadaaOpenB
import Derived.ProofKit
namespace Go.Proofs.Ytohmejfjmpnadaa.voteFar
open Go.ChangeShapes Go.WideShapes Go.ChangeAt Go.RowKit
set_option linter.unusedVariables false

theorem own : ownKnob Try.prog.godebug = none := by kernel_rfl
theorem laidOut : laidOutB Try.prog = true := by kernel_rfl


def one : Nat → Int
  | 0 => 1
  | 1 => 2
  | _ => 90
def third : Nat → Bool
  | 2 => true
  | _ => false
theorem one_in : In32 one := fun j => by unfold one; split <;> decide
theorem RBo.congr {w : World} {a : Option Addr} {n : Nat} {F G : Nat → Bool} (h : RBo w a n F) (e : ∀ j, j < n → F j = G j) : RBo w a n G := fun hn => by
  obtain ⟨b, off, h1, h2, h3⟩ := h hn
  exact ⟨b, off, h1, h2, fun j hj => by rw [← e j hj]; exact h3 j hj⟩
theorem first_far (w : World) : Calls Try.prog 11 #[.slice (some ⟨w.heap.size, 0, none⟩) 3 3, .slice (some ⟨w.heap.size + 1, 0, none⟩) 3 3, .int .i32 10] ((w.alloc (.cells #[.int .i32 1, .int .i32 2, .int .i32 90] 21)).alloc (.cells #[.bool true, .bool true, .bool true] 4)) fun r w' => ∃ g : Nat, r = .returned (.tuple #[.slice (some ⟨g, 0, none⟩) 3 3, .int .i64 0]) ∧ RBo w' (some ⟨g, 0, none⟩) 3 third ∧ Below w.heap.size w w' := by
  refine (far_ok _ _ 3 3 3 one (fun _ => true) 2 10 _ one_in (fun _ => ⟨w.heap.size, 0, rfl, by simp; omega, fun j hj => ?_⟩) (fun _ => ⟨w.heap.size + 1, 0, rfl, by simp, fun j hj => ?_⟩) (Or.inr (Or.inr (Or.inr ⟨by omega, rfl, by decide, rfl, by decide, by decide⟩))) (by omega) (by omega)).mono ?_
  · match j, hj with
    | 0, _ => go_simp; rfl
    | 1, _ => go_simp; rfl
    | 2, _ => go_simp; rfl
  · match j, hj with
    | 0, _ => go_simp
    | 1, _ => go_simp
    | 2, _ => go_simp
  · rintro r w1 ⟨g, rfl, hr, hb⟩
    refine ⟨g, rfl, RBo.congr hr fun j hj => ?_, (((Below.refl _ w).alloc (Nat.le_refl _) _).alloc (by simp) _).trans (hb.mono (by simp; omega))⟩
    match j, hj with
    | 0, _ => decide
    | 1, _ => decide
    | 2, _ => decide
theorem first_same (w : World) (g : Nat) (h : RBo w (some ⟨g, 0, none⟩) 3 third) : Calls Try.prog 17 #[.slice (some ⟨g, 0, none⟩) 3 3, .slice (some ⟨w.heap.size, 0, none⟩) 3 3] (w.alloc (.cells #[.bool false, .bool false, .bool true] 4)) fun r w' => r = .returned (.bool true) ∧ Below w.heap.size w w' := by
  have hb : Below w.heap.size w (w.alloc (.cells #[.bool false, .bool false, .bool true] 4)) := (Below.refl _ w).alloc (Nat.le_refl _) _
  refine (equalB_same _ _ 3 3 3 third _ (by omega) (h.step hb) (fun _ => ⟨w.heap.size, 0, rfl, by simp, fun j hj => ?_⟩)).mono ?_
  · match j, hj with
    | 0, _ => go_simp; rfl
    | 1, _ => go_simp; rfl
    | 2, _ => go_simp; rfl
  · rintro r w1 ⟨rfl, d, rfl⟩
    exact ⟨rfl, ⟨hb.os, hb.tape, hb.output, hb.size, hb.block⟩⟩

set_option maxHeartbeats 8000000 in
set_option maxRecDepth 100000 in
theorem walk_all (la : Option Addr) (ln lc : Nat) (l : Nat → Int) (oka : Option Addr) (okn okc : Nat) (ok : Nat → Bool) (mo : Int) (w : World) (hi : In32 l) (h : R32 w la ln l) (ho : RBo w oka okn ok) (h1 : mo ≤ 2147483647) (h1' : -2147483648 ≤ mo) :
    Calls Try.prog 6 #[.slice la ln lc, .slice oka okn okc, .int .i32 mo] w fun e w' => e = .returned (.bool true) ∧ Below w.heap.size w w' := by
  obtain ⟨md, E, hM⟩ := midS_there l ln ok okn
  have HM : Hid (MidS l ln ok okn md E) := hM
  have HR : Hid (R32 w la ln l) := h
  have HO : Hid (RBo w oka okn ok) := ho
  have HI : Hid (In32 l) := hi
  clear h ho hM hi
  have C4 := first_far
  have C5 := first_same
  go_enter Try.func6, Try.ntmps6
  go_wp2_with fail
  refine (C4 w).mono ?_
  rintro r w1 ⟨g1, rfl, hr, hb⟩
  have B1 : Hid (Below w.heap.size w w1) := hb
  have C6 := C5 w1 g1 hr
  clear hb C4 hr C5
  go_wp2_with fail
  refine C6.mono ?_
  rintro r w2 ⟨rfl, hb⟩
  have B2 : Hid (Below w.heap.size w w2) := B1.out.trans (hb.mono B1.out.size)
  clear hb B1 C6
  go_wp2_with fail
  by_cases h0 : E = 0
  · obtain ⟨c1, c2, _, _, i0, c5, _, c7⟩ := HM.out.good h0
    subst h0 c2
    rcases Int.lt_or_le mo 0 with hneg | hpos
    · refine (far_arg la oka okn lc okn okc l ok md mo w2 (HR.out.step B2.out) (HO.out.step B2.out) HM.out hneg).mono ?_
      rintro r w3 ⟨rfl, hb⟩
      have B3 : Hid (Below w.heap.size w w3) := B2.out.trans (hb.mono B2.out.size)
      clear hb B2 c7
      go_wp2_with fail
      refine (mid_any la oka okn lc okn okc l ok md 0 w3 (HR.out.step B3.out) (HO.out.step B3.out) HM.out).mono ?_
      rintro r w4 ⟨rfl, hb⟩
      have B4 : Hid (Below w.heap.size w w4) := B3.out.trans (hb.mono B3.out.size)
      clear hb B3
      go_wp2_with fail
      go_ret
      exact ⟨rfl, B4.out⟩
    · refine (far_ok la oka okn lc okc l ok md mo w2 HI.out (HR.out.step B2.out) (HO.out.step B2.out) HM.out hpos h1).mono ?_
      rintro r w3 ⟨g, rfl, hf, hb⟩
      have B3 : Hid (Below w.heap.size w w3) := B2.out.trans (hb.mono B2.out.size)
      have HF3 : Hid (RBo w3 (some ⟨g, 0, none⟩) okn (farB l ok md mo)) := hf
      have E0 : Hid (l i0 = md) := c7
      clear hb hf B2 c7
      go_wp2_with fail
      refine (mid_any la oka okn lc okn okc l ok md 0 w3 (HR.out.step B3.out) (HO.out.step B3.out) HM.out).mono ?_
      rintro r w4 ⟨rfl, hb⟩
      have B4 : Hid (Below w.heap.size w w4) := B3.out.trans (hb.mono B3.out.size)
      have HF : Hid (RBo w4 (some ⟨g, 0, none⟩) okn (farB l ok md mo)) := HF3.out.step hb
      have HR4 : Hid (R32 w4 la okn l) := HR.out.step B4.out
      have HO4 : Hid (RBo w4 oka okn ok) := HO.out.step B4.out
      obtain ⟨m1, m2⟩ := HI.out i0
      rw [E0.out] at m1 m2
      clear hb B3 HF3 HM HR HO
      go_wp2_with fail
      go_loopg [65] (okn + 1) (fun gg u wr => ∃ j : Nat, u = .int .i64 j ∧ okn - j < gg ∧ j ≤ okn ∧ wr = w4)
      case atStart => exact ⟨0, rfl, by omega, by omega, rfl⟩
      case round =>
        obtain ⟨j, rfl, hg, hj, rfl⟩ := hrel
        by_cases hlt : j < okn
        · have z1 : (j : Int) < (okn : Int) := by omega
          obtain ⟨b1, o1, rfl, hb1, hc1⟩ := HR4.out (by omega)
          obtain ⟨b2, o2, rfl, hb2, hc2⟩ := HO4.out (by omega)
          obtain ⟨b3, o3, e3, hb3, hc3⟩ := HF.out (by omega)
          simp only [Option.some.injEq, Addr.mk.injEq, and_true] at e3
          obtain ⟨rfl, rfl⟩ := e3
          simp only [Nat.zero_add] at hc3
          have HC1 : Hid (∀ k : Nat, k < okn → wr.cell? ⟨b1, o1 + k, none⟩ = some (.int .i32 (l k))) := hc1
          have HC2 : Hid (∀ k : Nat, k < okn → wr.cell? ⟨b2, o2 + k, none⟩ = some (.bool (ok k))) := hc2
          have HC3 : Hid (∀ k : Nat, k < okn → wr.cell? ⟨g, k, none⟩ = some (.bool (farB l ok md mo k))) := hc3
          have x0 := hc1 j hlt
          clear hc1 hc2 hc3
          obtain ⟨x, hx⟩ : ∃ x, x = l j := ⟨_, rfl⟩
          rw [← hx] at x0
          obtain ⟨a1, a2⟩ := HI.out j
          rw [← hx] at a1 a2
          have HX : Hid (x = l j) := hx
          clear hx
          go_wp2_with fail
          go_loopg [72] (okn + 1) (fun gg u wr2 => ∃ q : Nat, u = .int .i64 q ∧ okn - q < gg ∧ q ≤ okn ∧ wr2 = wr)
          case atStart => exact ⟨0, rfl, by omega, by omega, rfl⟩
          case round =>
            obtain ⟨q, rfl, hg2, hq, rfl⟩ := hrel
            have y0 := HC3.out j hlt
            by_cases hlt2 : q < okn
            · have z2 : (q : Int) < (okn : Int) := by omega
              have x1 := HC1.out q hlt2
              have x2 := HC2.out q hlt2
              have x3 := HC3.out q hlt2
              clear x0
              cases ej : farB l ok md mo j
              · rw [ej] at y0
                clear ej x2 x3
                go_wp2_with fail
                go_roundg (okn - (q + 1) + 1)
                case measure => omega
                case rel => exact ⟨q + 1, by go_num, by omega, by omega, rfl⟩
              · rw [ej] at y0
                cases ek : ok q
                · rw [ek] at x2
                  clear ek ej x3
                  go_wp2_with fail
                  go_roundg (okn - (q + 1) + 1)
                  case measure => omega
                  case rel => exact ⟨q + 1, by go_num, by omega, by omega, rfl⟩
                · rw [ek] at x2
                  cases ef : farB l ok md mo q
                  · have k1 := (farB_so ej).2
                    have k2 : ¬ mo < absI (l q - md) := fun hh => by rw [farB_yes ek hh] at ef; exact absurd ef (by decide)
                    obtain ⟨a3, a4⟩ := HI.out q
                    have CA := apart_any x md a1 a2 m1 m2
                    have CB := apart_any (l q) md a3 a4 m1 m2
                    rw [← HX.out] at k1
                    have k3 : ¬ absI (x - md) ≤ absI (l q - md) := by omega
                    rw [ef] at x3
                    clear ek ej ef k1 k2
                    generalize absI (l q - md) = D2 at CB k3
                    generalize absI (x - md) = D1 at CA k3
                    generalize l q = y at x1 CB a3 a4
                    go_wp2_with fail
                    refine (CA _).mono ?_
                    rintro r w5 ⟨rfl, rfl⟩
                    go_wp2_with fail
                    refine (CB _).mono ?_
                    rintro r w6 ⟨rfl, rfl⟩
                    go_wp2_with fail
                    go_roundg (okn - (q + 1) + 1)
                    case measure => omega
                    case rel => exact ⟨q + 1, by go_num, by omega, by omega, rfl⟩
                  · rw [ef] at x3
                    clear ek ej ef
                    go_wp2_with fail
                    go_roundg (okn - (q + 1) + 1)
                    case measure => omega
                    case rel => exact ⟨q + 1, by go_num, by omega, by omega, rfl⟩
            · have z2 : ¬ (q : Int) < (okn : Int) := by omega
              obtain rfl : q = okn := by omega
              have x2 := HC2.out j hlt
              cases ej : farB l ok md mo j
              · rw [ej] at y0
                clear ej x2
                go_wp2_with fail
                go_roundg (q - (j + 1) + 1)
                case measure => omega
                case rel => exact ⟨j + 1, by go_num, by omega, by omega, rfl⟩
              · obtain ⟨k0, k1⟩ := farB_so ej
                rw [ej] at y0
                rw [k0] at x2
                rw [← HX.out] at k1
                have CA := apart_any x md a1 a2 m1 m2
                by_cases em : mo = 2147483647
                · subst em
                  have k3 : ¬ absI (x - md) ≤ 2147483647 := by omega
                  clear k0 k1 ej
                  generalize absI (x - md) = D1 at CA k3
                  go_wp2_with fail
                  refine (CA _).mono ?_
                  rintro r w5 ⟨rfl, rfl⟩
                  go_wp2_with fail
                  go_roundg (q - (j + 1) + 1)
                  case measure => omega
                  case rel => exact ⟨j + 1, by go_num, by omega, by omega, rfl⟩
                · have k4 : (mo == 2147483647) = false := by simpa using em
                  clear k0 k1 ej em
                  go_wp2_with fail
                  go_roundg (q - (j + 1) + 1)
                  case measure => omega
                  case rel => exact ⟨j + 1, by go_num, by omega, by omega, rfl⟩
        · have z1 : ¬ (j : Int) < (okn : Int) := by omega
          obtain rfl : j = okn := by omega
          obtain ⟨S, hS⟩ := spr_there l j
          obtain ⟨s1, s2⟩ := hS.bounds HI.out
          have CS := spread_any la j lc l S wr c1 HI.out hS HR4.out
          have HN : Hid (¬ mo < S → ∀ k, k < j → farB l ok md mo k = false) := fun hh k hk => by
            cases e : farB l ok md mo k
            · rfl
            · exfalso
              have k1 := (farB_so e).2
              have k2 := hS.far hk c5
              rw [E0.out] at k2
              omega
          clear hS
          go_wp2_with fail
          refine CS.mono ?_
          rintro r w5 ⟨rfl, rfl⟩
          by_cases e : mo < S
          · clear HN
            go_wp2_with fail
            go_ret
            exact ⟨rfl, B4.out⟩
          · have CN := containsB_no (some ⟨g, 0, none⟩) j j (farB l ok md mo) w5 c1 HF.out (HN.out (by omega))
            clear HN
            go_wp2_with fail
            refine CN.mono ?_
            rintro r w6 ⟨rfl, rfl⟩
            go_wp2_with fail
            go_ret
            exact ⟨rfl, B4.out⟩
  · refine (far_bad la oka ln lc okn okc l ok md E mo w2 (HR.out.step B2.out) (HO.out.step B2.out) HM.out h0).mono ?_
    rintro r w3 ⟨rfl, hb⟩
    have B3 : Hid (Below w.heap.size w w3) := B2.out.trans (hb.mono B2.out.size)
    have q : (E != 0) = true := by simpa using h0
    clear hb B2 h0
    go_wp2_with fail
    refine (mid_any la oka ln lc okn okc l ok md E w3 (HR.out.step B3.out) (HO.out.step B3.out) HM.out).mono ?_
    rintro r w4 ⟨rfl, hb⟩
    have B4 : Hid (Below w.heap.size w w4) := B3.out.trans (hb.mono B3.out.size)
    clear hb B3
    go_wp2_with fail
    go_ret
    exact ⟨rfl, B4.out⟩

theorem walk (la : Option Addr) (ln lc : Nat) (l : Nat → Int) (oka : Option Addr) (okn okc : Nat) (ok : Nat → Bool) (m : Int) (w : World) (h_l : RowZ .i32 4 w la ln lc l) (h_ok : RowB w oka okn okc ok) (h_m : (Lit.int .i32 m).wf = true) :
    Calls Try.prog 6 #[.slice la ln lc, .slice oka okn okc, .int .i32 m] w fun e w' => e = .returned (.bool true) ∧ Below w.heap.size w w' :=
  walk_all la ln lc l oka okn okc ok m w (fun j => i32_of (h_l.1.2.2.1 j)) h_l.1.2.2.2 h_ok.2.2.2.2 (i32_of h_m).2 (i32_of h_m).1

/-! ### THE ROW's STEP -/
set_option maxRecDepth 100000 in
theorem lifted (os : Os) (started : os.Started) (H : Type) (enc : TypeId × Value → H) :
    ReturnsInHanded {} Try.checked os 6 .any (Rows.voteFarSpec.pre6 enc Try.prog Try.f6 Rows.voteFarRow.domain false) (Rows.voteFarSpec.post enc Try.prog Try.f6 false true false false) := by
  refine returnsInHanded_of_change_sized (C := Try.checked) own started (by kernel_rfl) Try.func6
    (ChangeSpec.witness6 (enc := enc) (C := Try.checked) false ⟨#[], #[.slice none 0 0, .slice none 0 0, .int .i32 0], []⟩ 8 (by kernel_rfl) (by kernel_rfl) (by kernel_rfl) (by kernel_rfl)) ?_
  intro W base args ds gs before hval0 hW hcnd hsz0 _
  have hval : ∀ (j : Nat) t v, Try.f6.params[j]? = some t → args[j]? = some v → Value.okWide Try.prog W .any base t v := hval0
  have hW' := hW
  obtain ⟨p, q, hA0, hV, rfl, hfz, hnd⟩ := hW
  have hA : DataW.TrodAll enc Try.prog W 0 (fun _ => true) true Try.f6.params.toList args.toList ds p := hA0
  rw [Try.params6] at hA hval
  obtain ⟨v0, vs0, d0, ds0, p0, q0, hargs, rfl, rfl, h0, r0⟩ := trodAll_cons hA
  obtain ⟨v1, vs1, d1, ds1, p1, q1, rfl, rfl, rfl, h1, r1⟩ := trodAll_cons r0
  obtain ⟨v2, vs2, d2, ds2, p2, q2, rfl, rfl, rfl, h2, r2⟩ := trodAll_cons r1
  obtain ⟨rfl, rfl, rfl⟩ := trodAll_nil r2
  obtain rfl : args = #[v0, v1, v2] := by cases args; simp_all
  obtain ⟨rfl, rfl⟩ := trodVars_none hV
  have hz0 : Light Try.prog 22 d0 := light_of hsz0 (j := 0) (by first | rfl | (rw [Try.params6]; rfl)) rfl
  have k0 := h0
  have lt0 : ∀ x ∈ p0, x.block < W.heap.size := by obtain ⟨m, hm⟩ := k0; exact DataW.trod_lt m _ _ _ hm
  obtain ⟨la, ln, lc, rfl⟩ := okWide_slice Try.underlying22 (hval 0 22 v0 rfl rfl)
  obtain ⟨l, h_l⟩ : ∃ l, RowZ .i32 4 W la ln lc l := by
    obtain ⟨fuel, hf⟩ := h0
    obtain ⟨a, m, c, l, hcs, hr⟩ := rowZ_of Try.underlying22 Try.underlying21 (by kernel_rfl) (by kernel_rfl) hf hz0
    simp [Value.cells] at hcs
    obtain ⟨rfl, rfl, rfl⟩ := hcs
    exact ⟨l, hr⟩
  have hz1 : Light Try.prog 23 d1 := light_of hsz0 (j := 1) (by first | rfl | (rw [Try.params6]; rfl)) rfl
  have k1 := h1
  have lt1 : ∀ x ∈ p1, x.block < W.heap.size := by obtain ⟨m, hm⟩ := k1; exact DataW.trod_lt m _ _ _ hm
  obtain ⟨oka, okn, okc, rfl⟩ := okWide_slice Try.underlying23 (hval 1 23 v1 rfl rfl)
  obtain ⟨ok, h_ok⟩ : ∃ l, RowB W oka okn okc l := by
    obtain ⟨fuel, hf⟩ := h1
    obtain ⟨a, m, c, l, hcs, hr⟩ := rowB_of Try.underlying23 Try.underlying4 (by kernel_rfl) (by kernel_rfl) hf hz1
    simp [Value.cells] at hcs
    obtain ⟨rfl, rfl, rfl⟩ := hcs
    exact ⟨l, hr⟩
  have hz2 : Light Try.prog 21 d2 := light_of hsz0 (j := 2) (by first | rfl | (rw [Try.params6]; rfl)) rfl
  have k2 := h2
  have lt2 : ∀ x ∈ p2, x.block < W.heap.size := by obtain ⟨m, hm⟩ := k2; exact DataW.trod_lt m _ _ _ hm
  obtain ⟨m, rfl, rfl, rfl, h_m⟩ := open_int Try.underlying21 (hval 2 21 v2 rfl rfl) h2
  clear hA0 hval0
  refine (walk la ln lc l oka okn okc ok m W h_l h_ok h_m).mono fun e W' ⟨he, bel⟩ => ?_
  subst he
  exact ⟨_, rfl, _, _, _, [], _, [], hW', trodAll_mk1 (shut_bool Try.underlying4 _), (trodAll_cons_mk (Below.trod laidOut (by kernel_rfl) (of_decide_eq_true (by kernel_rfl)) k0 bel lt0) (trodAll_cons_mk (Below.trod laidOut (by kernel_rfl) (of_decide_eq_true (by kernel_rfl)) k1 bel lt1) (trodAll_cons_mk (Below.trod laidOut (by kernel_rfl) (of_decide_eq_true (by kernel_rfl)) k2 bel lt2) trodAll_mk0))), rfl, bel.frame _, fun h => by cases h⟩

theorem over : Rows.voteFarRow.holds Try.pinned (OpenSpec.ofChange Rows.voteFarSpec) :=
  OpenClaim.holds_of_wide 6 Try.f6 rfl rfl rfl rfl rfl rfl rfl ⟨rfl, rfl, rfl, rfl, rfl⟩ rfl rfl rfl rfl rfl (by kernel_rfl) Try.func6 (by kernel_rfl)
    (of_decide_eq_true (by kernel_rfl)) (by unfold Func.isWrapper; first | (rw [if_pos (by decide +kernel)]; kernel_rfl) | (rw [if_neg (by decide +kernel)]; exact ⟨rfl, rfl⟩))
    (fun os started H enc _ => lifted os started H enc)


end Go.Proofs.Ytohmejfjmpnadaa.voteFar
namespace Go.Proofs.Ytohmejfjmpnadaa
/-- THE STATEMENT -/
theorem voteFar_holds : Rows.VoteFarSaid := voteFar.over
#print axioms voteFar_holds
end Go.Proofs.Ytohmejfjmpnadaa
