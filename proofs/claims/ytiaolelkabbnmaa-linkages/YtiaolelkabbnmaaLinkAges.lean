/-
  Whatever is handed in, the law LinkAges returns true: words are told as long as they are young enough, and not behind that. No condition.
-/
import Derived.Test.YtiaolelkabbnmaaLnkAll
import Derived.Test.YtiaolelkabbnmaaRest
import Derived.Test.YtiaolelkabbnmaaFrmOpen
import Derived.ProofKit
namespace Go.Proofs.Ytiaolelkabbnmaa.linkAges
open Go.ChangeShapes Go.WideShapes Go.ChangeAt Go.RowKit
set_option linter.unusedVariables false

theorem own : ownKnob Try.prog.godebug = none := by kernel_rfl
theorem laidOut : laidOutB Try.prog = true := by kernel_rfl


/-- the age behind j ticks -/
def age (j : Nat) : Int := if (j : Int) < 100 then (j : Int) else 100
theorem age_up (j : Nat) : upA (age j) = age (j + 1) := by
  unfold upA age
  repeat' split
  all_goals omega
theorem age_right (j : Nat) : lkE 1 0 5 1 true (age j) 0 = 0 := by
  rw [lkE_heard (by unfold age; split <;> omega) (by unfold age; split <;> omega) (by decide) (by decide)]
  decide
/-- the link in its box, and its word -/
structure Ag (w : World) (b : Nat) (A : Int) (a : Option Addr) (c : Nat) (W : World) : Prop where
  box : Cells W b [.int .i64 1, .int .i64 0, .int .u8 5, .slice a 1 c, .bool true, .int .i64 A, .int .i64 0]
  wds : Wds W a 1 (fun _ => 7)
  ne : ∀ x, a = some x → x.block ≠ b
  ge : w.heap.size ≤ b
  bel : Below w.heap.size w W
theorem Ag.step {w W W' : World} {b c : Nat} {A : Int} {a : Option Addr} (h : Ag w b A a c W) (hb : Below W.heap.size W W') : Ag w b A a c W' := ⟨h.box.step hb, h.wds.later hb, h.ne, h.ge, h.bel.trans (hb.mono h.bel.size)⟩
/-- the link's box is written -/
theorem Ag.put {w W : World} {b c c' : Nat} {A A' : Int} {a a' : Option Addr} (h : Ag w b A a c W) (h2 : Wds W a' 1 (fun _ => 7)) (h3 : ∀ x, a' = some x → x.block ≠ b) :
    Ag w b A' a' c' (((((((W.setCell ⟨b, 0, none⟩ (.int .i64 1)).setCell ⟨b, 1, none⟩ (.int .i64 0)).setCell ⟨b, 2, none⟩ (.int .u8 5)).setCell ⟨b, 3, none⟩ (.slice a' 1 c')).setCell ⟨b, 4, none⟩ (.bool true)).setCell ⟨b, 5, none⟩ (.int .i64 A')).setCell ⟨b, 6, none⟩ (.int .i64 0)) := by
  obtain ⟨w4, hw4, C4, b4, s4, o4, _⟩ := link_put h.box h.bel h.ge (.int .i64 1) (.int .i64 0) (.int .u8 5) (.slice a' 1 c') (.bool true) (.int .i64 A') (.int .i64 0)
  rw [hw4]
  refine ⟨C4, fun h0 => ?_, h3, h.ge, b4⟩
  obtain ⟨q, o, rfl, hlt, hrow⟩ := h2 h0
  exact Wds.block (fun _ => ⟨q, o, rfl, hlt, hrow⟩) (by rw [s4]; exact Nat.le_refl _) (o4 q (h3 _ rfl)) h0

set_option maxHeartbeats 2000000 in
set_option maxRecDepth 100000 in
theorem walk (n : Int) (m : Int) (w : World) (h_n : (Lit.int .i64 n).wf = true) (h_m : (Lit.int .i64 m).wf = true) :
    Calls Try.prog 5 #[.int .i64 n, .int .i64 m] w fun e w' => e = .returned (.bool true) ∧ Below w.heap.size w w' := by
  have k0 : 0 ≤ n % 150 := Int.emod_nonneg _ (by decide)
  have k1 : n % 150 < 150 := Int.emod_lt_of_pos _ (by decide)
  obtain ⟨k, hk⟩ : ∃ k : Nat, n % 150 = (k : Int) := ⟨(n % 150).toNat, by omega⟩
  have CR : Hid (∀ W, Calls Try.prog 19 #[.int .i64 n, .int .i64 150] W fun e w' => e = .returned (.int .i64 (k : Int)) ∧ w' = W) := fun W => by rw [← hk]; exact rrest_any n 150 (by decide) (by decide) W
  have CT : Hid (∀ (j : Nat) (a : Option Addr) (c : Nat) (W : World), Wds W a 1 (fun _ => 7) → Calls Try.prog 10 #[.agg #[.int .i64 1, .int .i64 0, .int .u8 5, .slice a 1 c, .bool true, .int .i64 (age j), .int .i64 0]] W fun e w' => ∃ g, e = .returned (.tuple #[.agg #[.int .i64 1, .int .i64 0, .int .u8 5, .slice (some ⟨g, 0, none⟩) 1 1, .bool true, .int .i64 (age (j + 1)), .int .i64 0], .int .i64 0]) ∧ Wds w' (some ⟨g, 0, none⟩) 1 (fun _ => 7) ∧ W.heap.size ≤ g ∧ Below W.heap.size W w') := fun j a c W h => by
    rw [← age_up j]
    exact tick_heard 1 0 5 a 1 c (fun _ => 7) (age j) 0 W (age_right j) h
  have CO : Hid (∀ (j : Nat) (x : Int) (a : Option Addr) (c : Nat) (W : World), Wds W a 1 (fun _ => 7) → age j ≤ x → Calls Try.prog 11 #[.agg #[.int .i64 1, .int .i64 0, .int .u8 5, .slice a 1 c, .bool true, .int .i64 (age j), .int .i64 0], .int .i64 x] W fun e w' => ∃ g, e = .returned (.tuple #[.slice (some ⟨g, 0, none⟩) 1 1, .int .i64 0]) ∧ Wds w' (some ⟨g, 0, none⟩) 1 (fun _ => 7) ∧ W.heap.size ≤ g ∧ Below W.heap.size W w') := fun j x a c W h hx => words_ok 1 0 5 a 1 c (fun _ => 7) (age j) 0 x W (age_right j) h hx
  have CS : Hid (∀ (j : Nat) (x : Int) (a : Option Addr) (c : Nat) (W : World), x < age j → Calls Try.prog 11 #[.agg #[.int .i64 1, .int .i64 0, .int .u8 5, .slice a 1 c, .bool true, .int .i64 (age j), .int .i64 0], .int .i64 x] W fun e w' => e = .returned (.tuple #[.slice none 0 0, .int .i64 6]) ∧ Below W.heap.size W w') := fun j x a c W hx => words_stale 1 0 5 a 1 c (age j) 0 x W (age_right j) hx
  have CE : Hid (∀ (a : Option Addr) (c b : Nat) (W : World), b = W.heap.size → Wds W a 1 (fun _ => 7) → Calls Try.prog 15 #[.slice a 1 c, .slice (some ⟨b, 0, none⟩) 1 1] (W.alloc (.cells #[.int .i32 7] 21)) fun e w' => e = .returned (.bool true) ∧ Below W.heap.size W w') := fun a c b W hbW h => by
    subst hbW
    have hb := (Below.refl _ W).alloc (Nat.le_refl _) (.cells #[.int .i32 7] 21)
    have h1 : Wds (W.alloc (.cells #[.int .i32 7] 21)) (some ⟨W.heap.size, 0, none⟩) 1 (fun _ => 7) := fun _ => ⟨W.heap.size, 0, rfl, by simp, fun j hj => by
      obtain rfl : j = 0 := by omega
      exact (cells_new W #[.int .i32 7] 21).cell 0 _ rfl⟩
    refine (equal_wds a (some ⟨W.heap.size, 0, none⟩) 1 c 1 1 (fun _ => 7) (fun _ => 7) _ (by decide) (h.later hb) h1).mono ?_
    rintro e w' ⟨rfl, d, rfl⟩
    exact ⟨by rw [(eqB_iff _ _ 1).2 (fun _ _ => rfl)]; rfl, below_drewN hb d⟩
  have mn : ∀ W : World, (Builtin.min_ #[3, 3] 3 #[.int .i64 (k : Int), .int .i64 100]).run Try.prog W = .ok (.int .i64 (age k)) W := fun W => by
    rw [run_min_int2, show (if (100 : Int) < (k : Int) then (100 : Int) else (k : Int)) = age k by unfold age; repeat' split; all_goals omega]
  have z0 : age 0 = 0 := rfl
  have HK : k < 150 := by omega
  clear hk k0 k1 h_n h_m
  go_enter Try.func5, Try.ntmps5
  go_wp2_with fail
  refine (heard_any _).mono ?_
  rintro e w1 ⟨a, c, rfl, hw, ha, hb⟩
  have X1 : Hid (Ag w w1.heap.size (age 0) a c (w1.alloc (.cells #[.int .i64 1, .int .i64 0, .int .u8 5, .slice a 1 c, .bool true, .int .i64 0, .int .i64 0] 26))) := ⟨cells_new w1 _ _, hw.later ((Below.refl _ w1).alloc (Nat.le_refl _) _), fun x hx => by obtain ⟨q, o, e, hlt, _⟩ := hw (by decide); rw [e] at hx; cases hx; show q ≠ _; omega, hb.size, hb.alloc hb.size _⟩
  clear hw ha hb
  go_upto_region 2 with fail
  generalize w1.alloc (.cells #[.int .i64 1, .int .i64 0, .int .u8 5, .slice a 1 c, .bool true, .int .i64 0, .int .i64 0] 26) = w2 at X1 ⊢
  generalize w1.heap.size = b at X1 ⊢
  obtain ⟨lx, x0, x1, x2, x3, x4, x5, x6⟩ := link_cells X1.out.box
  rw [z0] at x5
  go_wp2_with fail
  clear lx x0 x1 x2 x3 x4 x5 x6
  refine (CO.out 0 0 a c _ X1.out.wds (by rw [z0]; exact Int.le_refl _)).mono ?_
  rintro e w3 ⟨g, rfl, hw, hg, hb⟩
  have X3 : Hid (Ag w b (age 0) a c w3) := X1.out.step hb
  have W3 : Hid (Wds w3 (some ⟨g, 0, none⟩) 1 (fun _ => 7)) := hw
  clear hw hg hb X1
  go_wp2_with fail
  refine (CE.out _ _ _ w3 rfl W3.out).mono ?_
  rintro e w4 ⟨rfl, hb⟩
  have X4 : Hid (Ag w b (age 0) a c w4) := X3.out.step hb
  clear hb X3 W3
  go_wp2_with fail
  refine (CR.out _).mono ?_
  rintro e w5 ⟨rfl, rfl⟩
  go_wp2_with fail
  go_loopw [28] (fun i wr => ∃ (j : Nat) (a : Option Addr) (c : Nat), j ≤ k ∧ i = .int .i64 j ∧ Hid (Ag w b (age j) a c wr)) (fun i _ => k - (intOf i).toNat)
  case atStart => exact ⟨0, a, c, by omega, rfl, X4⟩
  case round =>
    clear X4
    obtain ⟨j, a, c, hj, rfl, LJ⟩ := hrel
    rcases Nat.lt_or_ge j k with g | g
    · have g' : (j : Int) < (k : Int) := by omega
      have jb : (j : Int) < 150 := by omega
      obtain ⟨lx, x0, x1, x2, x3, x4, x5, x6⟩ := link_cells LJ.out.box
      go_wp2_with fail
      clear lx x0 x1 x2 x3 x4 x5 x6
      refine (CT.out j a c _ LJ.out.wds).mono ?_
      rintro e w6 ⟨q, rfl, hw, hq, hb⟩
      have X6 : Hid (Ag w b (age j) a c w6) := LJ.out.step hb
      have W6 : Hid (Wds w6 (some ⟨q, 0, none⟩) 1 (fun _ => 7) ∧ b < q) := ⟨hw, by have := LJ.out.box.lt; omega⟩
      clear hw hq hb LJ
      obtain ⟨lx, x0, x1, x2, x3, x4, x5, x6⟩ := link_cells X6.out.box
      obtain ⟨f0, f1, f2, f3, f4, f5, f6⟩ := link_froz X6.out.box
      go_wp2_with fail
      clear lx x0 x1 x2 x3 x4 x5 x6 f0 f1 f2 f3 f4 f5 f6
      have X7 : Hid (Ag w b (age (j + 1)) (some ⟨q, 0, none⟩) 1 _) := X6.out.put W6.out.1 (fun x hx => by cases hx; show q ≠ b; have := W6.out.2; omega)
      go_roundw
      case rel => exact ⟨j + 1, _, _, by omega, by go_num, X7⟩
      case measure => simp [intOf]; omega
    · have : j = k := by omega
      subst this
      obtain ⟨lx, x0, x1, x2, x3, x4, x5, x6⟩ := link_cells LJ.out.box
      rcases Int.lt_or_le m (age j) with q | q
      · go_wp2_with fail
        refine (CS.out j m a c _ q).mono ?_
        rintro e w6 ⟨rfl, hb⟩
        have B6 : Hid (Below w.heap.size w w6) := (LJ.out.step hb).bel
        clear hb LJ lx x0 x1 x2 x3 x4 x5 x6
        go_wp2_with fail
        go_ret
        exact ⟨rfl, B6.out⟩
      · have q' : ¬ m < age j := by omega
        go_wp2_with fail
        refine (CO.out j m a c _ LJ.out.wds q).mono ?_
        rintro e w6 ⟨g6, rfl, hw, hg, hb⟩
        have B6 : Hid (Below w.heap.size w w6) := (LJ.out.step hb).bel
        have W6 : Hid (Wds w6 (some ⟨g6, 0, none⟩) 1 (fun _ => 7)) := hw
        clear hb hw hg LJ lx x0 x1 x2 x3 x4 x5 x6
        go_wp2_with fail
        refine (CE.out _ _ _ w6 rfl W6.out).mono ?_
        rintro e w7 ⟨rfl, hb⟩
        have B7 : Hid (Below w.heap.size w w7) := B6.out.trans (hb.mono B6.out.size)
        clear hb
        go_wp2_with fail
        go_ret
        exact ⟨rfl, B7.out⟩

/-! ### THE ROW's STEP -/
set_option maxRecDepth 100000 in
theorem lifted (os : Os) (started : os.Started) (H : Type) (enc : TypeId × Value → H) :
    ReturnsInHanded {} Try.checked os 5 .any (Rows.linkAgesSpec.pre6 enc Try.prog Try.f5 Rows.linkAgesRow.domain false) (Rows.linkAgesSpec.post enc Try.prog Try.f5 false true false false) := by
  refine returnsInHanded_of_change_sized (C := Try.checked) own started (by kernel_rfl) Try.func5
    (ChangeSpec.witness6 (enc := enc) (C := Try.checked) false ⟨#[], #[.int .i64 0, .int .i64 0], []⟩ 8 (by kernel_rfl) (by kernel_rfl) (by kernel_rfl) (by kernel_rfl)) ?_
  intro W base args ds gs before hval0 hW hcnd hsz0 _
  have hval : ∀ (j : Nat) t v, Try.f5.params[j]? = some t → args[j]? = some v → Value.okWide Try.prog W .any base t v := hval0
  have hW' := hW
  obtain ⟨p, q, hA0, hV, rfl, hfz, hnd⟩ := hW
  have hA : DataW.TrodAll enc Try.prog W 0 (fun _ => true) true Try.f5.params.toList args.toList ds p := hA0
  rw [Try.params5] at hA hval
  obtain ⟨v0, vs0, d0, ds0, p0, q0, hargs, rfl, rfl, h0, r0⟩ := trodAll_cons hA
  obtain ⟨v1, vs1, d1, ds1, p1, q1, rfl, rfl, rfl, h1, r1⟩ := trodAll_cons r0
  obtain ⟨rfl, rfl, rfl⟩ := trodAll_nil r1
  obtain rfl : args = #[v0, v1] := by cases args; simp_all
  obtain ⟨rfl, rfl⟩ := trodVars_none hV
  have hz0 : Light Try.prog 3 d0 := light_of hsz0 (j := 0) (by first | rfl | (rw [Try.params5]; rfl)) rfl
  have k0 := h0
  have lt0 : ∀ x ∈ p0, x.block < W.heap.size := by obtain ⟨m, hm⟩ := k0; exact DataW.trod_lt m _ _ _ hm
  obtain ⟨n, rfl, rfl, rfl, h_n⟩ := open_int Try.underlying3 (hval 0 3 v0 rfl rfl) h0
  have hz1 : Light Try.prog 3 d1 := light_of hsz0 (j := 1) (by first | rfl | (rw [Try.params5]; rfl)) rfl
  have k1 := h1
  have lt1 : ∀ x ∈ p1, x.block < W.heap.size := by obtain ⟨m, hm⟩ := k1; exact DataW.trod_lt m _ _ _ hm
  obtain ⟨m, rfl, rfl, rfl, h_m⟩ := open_int Try.underlying3 (hval 1 3 v1 rfl rfl) h1
  clear hA0 hval0
  refine (walk n m W h_n h_m).mono fun e W' ⟨he, bel⟩ => ?_
  subst he
  exact ⟨_, rfl, _, _, _, [], _, [], hW', trodAll_mk1 (shut_bool Try.underlying4 _), (trodAll_cons_mk (Below.trod laidOut (by kernel_rfl) (of_decide_eq_true (by kernel_rfl)) k0 bel lt0) (trodAll_cons_mk (Below.trod laidOut (by kernel_rfl) (of_decide_eq_true (by kernel_rfl)) k1 bel lt1) trodAll_mk0)), rfl, bel.frame _, fun h => by cases h⟩

theorem over : Rows.linkAgesRow.holds Try.pinned (OpenSpec.ofChange Rows.linkAgesSpec) :=
  OpenClaim.holds_of_wide 5 Try.f5 rfl rfl rfl rfl rfl rfl rfl ⟨rfl, rfl, rfl, rfl, rfl⟩ rfl rfl rfl rfl rfl (by kernel_rfl) Try.func5 (by kernel_rfl)
    (of_decide_eq_true (by kernel_rfl)) (by unfold Func.isWrapper; first | (rw [if_pos (by decide +kernel)]; kernel_rfl) | (rw [if_neg (by decide +kernel)]; exact ⟨rfl, rfl⟩))
    (fun os started H enc _ => lifted os started H enc)


end Go.Proofs.Ytiaolelkabbnmaa.linkAges
namespace Go.Proofs.Ytiaolelkabbnmaa
/-- THE STATEMENT -/
theorem linkAges_holds : Rows.LinkAgesSaid := linkAges.over
#print axioms linkAges_holds
end Go.Proofs.Ytiaolelkabbnmaa
