/-
  Whatever is handed in, the law LogNewest returns true: the newest entries are there, in order, and what came last is the last one; nothing is counted that did not come. No condition.
-/
import Derived.Test.YtkklinjamcfppaaLogPlain
import Derived.Test.YtkklinjamcfppaaOpenE
import Derived.ProofKit
namespace Go.Proofs.Ytkklinjamcfppaa.logNewest
open Go.ChangeShapes Go.WideShapes Go.ChangeAt Go.RowKit
set_option linter.unusedVariables false

theorem own : ownKnob Try.prog.godebug = none := by kernel_rfl
theorem laidOut : laidOutB Try.prog = true := by kernel_rfl


/-- the log so far, and how many were put -/
structure Lg (w : World) (a : Option Addr) (k c : Nat) (o : Nat → En) (p : Int) (W : World) : Prop where
  bel : Below w.heap.size w W
  row : RowF W a k c o
  ok : chE o k = 0
  sum : sumE o k ≤ p
  or : k = 32 ∨ sumE o k = p ∨ 9999 < p
  nil : a = none → k = 0
theorem Lg.step {w : World} {a : Option Addr} {k c : Nat} {o : Nat → En} {p : Int} {W W' : World} (h : Lg w a k c o p W) (hb : Below W.heap.size W W') : Lg w a k c o p W' :=
  ⟨below_then h.bel hb h.bel.size, h.row.step hb, h.ok, h.sum, h.or, h.nil⟩

theorem first (W : World) (b : Nat) (h : EAt W b 0 ⟨1, 0, 2, 1⟩) (hb : b < W.heap.size) : Calls Try.prog 4 #[.slice (some ⟨b, 0, none⟩) (1 : Nat) 1, .int .i64 5, .int .i64 0, .int .i64 2] W fun e w' => ∃ a' c', e = .returned (.tuple #[.slice a' (1 : Nat) c', .int .i64 0]) ∧ RowE w' a' 1 (fun _ => ⟨1, 0, 2, 2⟩) ∧ Below W.heap.size W w' := by
  have R : RowF W (some ⟨b, 0, none⟩) 1 1 (fun _ => ⟨1, 0, 2, 1⟩) := ⟨Nat.le_refl _, by unfold maxLen; omega, fun _ => ⟨b, 0, rfl, hb, fun j hj => by
    obtain rfl : j = 0 := by omega
    exact h⟩⟩
  refine (put_any (some ⟨b, 0, none⟩) 1 1 (fun _ => ⟨1, 0, 2, 1⟩) 5 0 2 W R).mono ?_
  rintro e w' ⟨a', c', he, hN, hB⟩
  refine ⟨a', c', he, fun hp => ?_, hB⟩
  obtain ⟨b', o', e1, e2, e3⟩ := hN.row hp
  refine ⟨b', o', e1, e2, fun j hj => ?_⟩
  have := e3 j hj
  obtain rfl : j = 0 := by omega
  exact this

set_option maxHeartbeats 16000000 in
set_option maxRecDepth 100000 in
theorem walk (la : Option Addr) (ln lc : Nat) (l : Nat → En) (w : World) (h_l : RowI w la ln lc l) :
    Calls Try.prog 3 #[.slice la ln lc] w fun e w' => e = .returned (.bool true) ∧ Below w.heap.size w w' := by
  have HR : Hid (RowE w la ln l) := h_l.rf.row
  have hz := h_l.small
  clear h_l
  have X0 : Hid (_) := cells_new w #[.int .i64 1, .int .i64 0, .int .i64 2, .int .i64 1] 27
  have L0 : Hid (Below w.heap.size w (w.alloc (.cells #[.int .i64 1, .int .i64 0, .int .i64 2, .int .i64 1] 27))) := (Below.refl _ w).alloc (Nat.le_refl _) _
  go_enter Try.func3, Try.ntmps3
  go_wp2_with fail
  refine (first _ _ ⟨X0.out.cell 0 _ rfl, X0.out.cell 1 _ rfl, X0.out.cell 2 _ rfl, X0.out.cell 3 _ rfl⟩ X0.out.lt).mono ?_
  rintro e w1 ⟨xa, xc, rfl, hx, hb⟩
  have HX : Hid (RowE w1 xa 1 (fun _ => ⟨1, 0, 2, 2⟩)) := hx
  have B1 : Hid (Below w.heap.size w w1) := below_then L0.out hb L0.out.size
  clear hx hb X0 L0
  go_wp2_with fail
  have X2 : Hid (_) := cells_new w1 #[.int .i64 1, .int .i64 0, .int .i64 2, .int .i64 2] 27
  have L2 : Hid (Below w1.heap.size w1 (w1.alloc (.cells #[.int .i64 1, .int .i64 0, .int .i64 2, .int .i64 2] 27))) := (Below.refl _ w1).alloc (Nat.le_refl _) _
  refine (equalE_any xa (some ⟨w1.heap.size, 0, none⟩) 1 xc 1 (fun _ => ⟨1, 0, 2, 2⟩) (fun _ => ⟨1, 0, 2, 2⟩) _ (by omega) (HX.out.step L2.out) (fun _ => ⟨_, 0, rfl, X2.out.lt, fun j hj => by
    obtain rfl : j = 0 := by omega
    exact ⟨X2.out.cell 0 _ rfl, X2.out.cell 1 _ rfl, X2.out.cell 2 _ rfl, X2.out.cell 3 _ rfl⟩⟩)).mono ?_
  rw [eqR_same (fun k hk => rfl)]
  rintro e w2 ⟨rfl, hb⟩
  have B2 : Hid (Below w.heap.size w w2) := below_then (below_then B1.out L2.out B1.out.size) hb (by have := B1.out.size; simp; omega)
  clear hb X2 L2 HX
  go_wp2_with fail
  go_loopg [5, 7, 32] (ln + 1) (fun g so sp sq wr => ∃ (q k c : Nat) (p : Int) (a : Option Addr) (o : Nat → En), so = .slice a k c ∧ sp = .int .i64 p ∧ sq = .int .i64 q ∧ ln - q < g ∧ q ≤ ln ∧ 0 ≤ p ∧ p ≤ q ∧ Hid (Lg w a k c o p wr))
  case atStart => exact ⟨0, 0, 0, 0, none, fun _ => ⟨0, 0, 0, 0⟩, rfl, rfl, rfl, by omega, by omega, by omega, by omega, ⟨B2.out, ⟨Nat.le_refl _, by unfold maxLen; omega, fun h => absurd h (by omega)⟩, rfl, Int.le_refl _, Or.inr (Or.inl rfl), fun _ => rfl⟩⟩
  case round =>
    obtain ⟨q, k, c, p, a, o, rfl, rfl, rfl, hg, hq, hp0, hp1, HL⟩ := hrel
    by_cases hlt : q < ln
    · have z1 : (q : Int) < (ln : Int) := by omega
      obtain ⟨bl, ol, rfl, hbl, hcl⟩ := HR.out (by omega)
      obtain ⟨x0, x1, x2, x3⟩ := (hcl q hlt).step HL.out.bel hbl
      clear hcl
      have X4 : Hid (_) := cells_new wr #[.int .i64 (l q).f, .int .i64 (l q).l, .int .i64 (l q).c, .int .i64 (l q).m] 27
      have L4 : Hid (Below wr.heap.size wr (wr.alloc (.cells #[.int .i64 (l q).f, .int .i64 (l q).l, .int .i64 (l q).c, .int .i64 (l q).m] 27))) := (Below.refl _ wr).alloc (Nat.le_refl _) _
      have CP := put_any a k c o (l q).f (l q).l (l q).c _ (HL.out.row.step L4.out)
      by_cases r : putR o k ⟨(l q).f, (l q).l, (l q).c, 1⟩ = 0
      · have M := made_of (x := ⟨(l q).f, (l q).l, (l q).c, 1⟩) rfl r
        rw [r, if_pos rfl] at CP
        generalize putN o k ⟨(l q).f, (l q).l, (l q).c, 1⟩ = N at M CP
        generalize putL o k ⟨(l q).f, (l q).l, (l q).c, 1⟩ = L at M CP
        obtain ⟨m, rfl⟩ : ∃ m, N = m + 1 := ⟨N - 1, by have := M.pos; omega⟩
        have HM : Hid (_) := M
        have m32 := M.le
        clear r M
        go_wp2_with fail
        refine CP.mono ?_
        rintro e w4 ⟨na, nc, rfl, hN, hb⟩
        have X5 : Hid (_) := X4.out.step hb
        have B5 : Hid (Below wr.heap.size wr w4) := below_then L4.out hb (by simp)
        have NW : Hid (_) := hN.mono (show wr.heap.size ≤ _ by simp)
        clear hb hN CP X4 L4 x0 x1 x2 x3
        obtain ⟨d, rfl⟩ : ∃ d, na = some d := by
          cases na with
          | none => exact absurd rfl (NW.out.some (by omega))
          | some d => exact ⟨d, rfl⟩
        obtain ⟨g, rfl, hg1, hg2, hg3, _⟩ := NW.out.blk d rfl
        have hgne : ¬ w4.heap.size = g := by omega
        obtain ⟨p0, p1, p2, p3⟩ := hg3 m (by omega)
        obtain ⟨e1, e2, e3⟩ : (L m).l = (l q).l ∧ (L m).c = (l q).c ∧ (L m).f ≤ (l q).f := HM.out.last
        rw [e1] at p1
        rw [e2] at p2
        clear e1 e2 hg3
        have y0 := X5.out.cell 0 _ rfl
        have y1 := X5.out.cell 1 _ rfl
        have y2 := X5.out.cell 2 _ rfl
        have y3 := X5.out.cell 3 _ rfl
        have yl := X5.out.lt
        have z2 : ((m + 1 : Nat) : Int) - 1 = (m : Int) := by omega
        have z3 : ¬ (l q).f < (L m).f := by omega
        have z4 : (m : Int) + 1 ≤ (nc : Int) := by have := NW.out.le; omega
        have C5 : Hid (∀ W, Below w4.heap.size w4 W → Calls Try.prog 6 #[.slice (some ⟨g, 0, none⟩) (m + 1 : Nat) nc] W fun e w' => e = .returned (.int .i64 0) ∧ Below W.heap.size W w') := fun W hW => by
          have := check_any (some ⟨g, 0, none⟩) (m + 1) nc L W (NW.out.row.step hW)
          rw [HM.out.ok] at this
          exact this
        go_wp2_with fail
        refine (C5.out _ ((Below.refl _ _).alloc (Nat.le_refl _) _)).mono ?_
        rintro e w7 ⟨rfl, hb⟩
        have S7 : Hid (Below w4.heap.size w4 w7) := below_then ((Below.refl _ w4).alloc (Nat.le_refl _) _) hb (by simp)
        clear hb p0 p1 p2 p3 y0 y1 y2 y3 C5
        have N7 : Hid (_) := NW.out.step S7.out
        have B7 : Hid (_) := below_then B5.out S7.out B5.out.size
        have HG : Hid (Lg w (some ⟨g, 0, none⟩) (m + 1) nc L (p + 1) w7) := ⟨below_then HL.out.bel B7.out HL.out.bel.size, N7.out.rowF, HM.out.ok, by have := HM.out.sum; have := HL.out.sum; omega, by
          have h1 := HM.out.or
          have h2 := HM.out.mono
          have h3 := HL.out.or
          have h4 := HM.out.le
          have h5 := HL.out.sum
          omega, fun h => by cases h⟩
        clear S7 NW B5 X5 yl hgne z2 z3
        by_cases e : m = k
        · subst e
          have R8 : Hid (RowE w7 (some ⟨g, 0, none⟩) m L) := fun hp => by
            obtain ⟨b', o', e1, e2, e3⟩ := N7.out.row (by omega)
            exact ⟨b', o', e1, e2, fun j hj => e3 j (by omega)⟩
          have z5 : (m : Int) ≤ (nc : Int) := by omega
          have z6 : (0 : Int) ≤ (m : Int) := by omega
          have C8 : Hid (Calls Try.prog 5 #[.slice (some ⟨g, 0, none⟩) m nc, .slice a m c] w7 fun e w' => e = .returned (.bool true) ∧ Below w7.heap.size w7 w') := by
            have := equalE_any (some ⟨g, 0, none⟩) a m nc c L o w7 (by omega) R8.out ((HL.out.step B7.out).row.row)
            rw [eqR_same (fun t ht => HM.out.front rfl t ht)] at this
            exact this
          go_wp2_with fail
          refine C8.out.mono ?_
          rintro e w8 ⟨rfl, hb⟩
          have HG8 : Hid (_) := HG.out.step hb
          clear hb
          go_wp2_with fail
          go_roundg (ln - (q + 1) + 1)
          case measure => omega
          case rel => exact ⟨q + 1, m + 1, nc, p + 1, some ⟨g, 0, none⟩, L, rfl, rfl, by go_num, by omega, by omega, by omega, by omega, HG8.out⟩
        · have z5 : ((m : Int) + 1 == (k : Int) + 1) = false := by simp; omega
          have z6 : ¬ (m : Int) = (k : Int) := by omega
          have k32 := (chE_zero HL.out.ok).1
          go_wp2_with fail
          go_roundg (ln - (q + 1) + 1)
          case measure => omega
          case rel => exact ⟨q + 1, m + 1, nc, p + 1, some ⟨g, 0, none⟩, L, rfl, rfl, by go_num, by omega, by omega, by omega, by omega, HG.out⟩
      · generalize putR o k ⟨(l q).f, (l q).l, (l q).c, 1⟩ = E at r CP
        rw [if_neg r] at CP
        have r2 : (E != 0) = true := by simpa using r
        clear r
        go_wp2_with fail
        refine CP.mono ?_
        rintro e w4 ⟨na, nc, rfl, hN, hb⟩
        have B5 : Hid (Below wr.heap.size wr w4) := below_then L4.out hb (by simp)
        clear hb hN CP X4 L4 x0 x1 x2 x3
        go_wp2_with fail
        go_roundg (ln - (q + 1) + 1)
        case measure => omega
        case rel => exact ⟨q + 1, k, c, p, a, o, rfl, rfl, by go_num, by omega, by omega, hp0, by omega, HL.out.step B5.out⟩
    · have z1 : ¬ (q : Int) < (ln : Int) := by omega
      obtain rfl : q = ln := by omega
      have hk := (chE_zero HL.out.ok).1
      have mb : ∀ t, t < k → 1 ≤ (o t).m ∧ (o t).m ≤ 9999 := fun t ht => ((okE_iff _).1 (fsE_zero (chE_zero HL.out.ok).2 ht).1).2.2.2
      have sb : ∀ t, t ≤ k → 0 ≤ sumE o t ∧ sumE o t ≤ 9999 * t := fun t => by
        induction t with
        | zero => intro _; exact ⟨Int.le_refl _, Int.le_refl _⟩
        | succ t ih =>
          intro ht
          have h1 := ih (by omega)
          have h2 := mb t (by omega)
          rw [sumE_succ]
          omega
      have HS : Hid (∀ t, t ≤ k → 0 ≤ sumE o t ∧ sumE o t ≤ 9999 * t) := sb
      have HB : Hid (∀ t, t < k → 1 ≤ (o t).m ∧ (o t).m ≤ 9999) := mb
      clear sb mb hg hq z1
      go_wp2_with fail
      go_loopg [6, 103] (k + 1) (fun g sn sj ws => ∃ j : Nat, sn = .int .i64 (sumE o j) ∧ sj = .int .i64 j ∧ k - j < g ∧ j ≤ k ∧ Hid (Below wr.heap.size wr ws))
      case atStart => exact ⟨0, rfl, rfl, by omega, by omega, Below.refl _ _⟩
      case round =>
        obtain ⟨j, rfl, rfl, hg, hj, HW⟩ := hrel
        have s0 := HS.out j hj
        by_cases hjk : j < k
        · have z1 : (j : Int) < (k : Int) := by omega
          obtain ⟨bo, oo, rfl, hbo, hco⟩ := HL.out.row.row (by omega)
          obtain ⟨x0, x1, x2, x3⟩ := (hco j hjk).step HW.out hbo
          have m0 := HB.out j hjk
          have s1 := sumE_succ o j
          obtain ⟨s, hs⟩ : ∃ s, sumE o j = s := ⟨_, rfl⟩
          rw [hs] at s0 s1 ⊢
          obtain ⟨s2, s3⟩ := s0
          have s4 : s ≤ 319968 := by omega
          obtain ⟨m1, m2⟩ := m0
          have HT : Hid (sumE o (j + 1) = s + (o j).m) := s1
          clear s1 hs s3 hco
          have hbs := HW.out.size
          go_wp2_with fail
          go_roundg (k - (j + 1) + 1)
          case measure => omega
          case rel => exact ⟨j + 1, by rw [HT.out], by go_num, by omega, by omega, HW.out.alloc HW.out.size _⟩
        · have z1 : ¬ (j : Int) < (k : Int) := by omega
          obtain rfl : j = k := by omega
          have h1 := HL.out.sum
          have h2 := HL.out.or
          obtain ⟨s, hs⟩ : ∃ s, sumE o j = s := ⟨_, rfl⟩
          rw [hs] at h1 h2 ⊢
          clear hs s0
          by_cases e1 : j = 32
          · subst e1
            clear h2
            go_wp2_with fail
            go_ret
            exact ⟨rfl, below_then HL.out.bel HW.out HL.out.bel.size⟩
          · have z2 : ((j : Int) == 32) = false := by simp; omega
            have z3 : ¬ (j : Int) = 32 := by omega
            by_cases e2 : s = p
            · subst e2
              clear h2
              go_wp2_with fail
              go_ret
              exact ⟨rfl, below_then HL.out.bel HW.out HL.out.bel.size⟩
            · have z4 : (s == p) = false := by simpa using e2
              have z5 : 9999 < p := by omega
              clear h2
              go_wp2_with fail
              go_ret
              exact ⟨rfl, below_then HL.out.bel HW.out HL.out.bel.size⟩

/-! ### THE ROW's STEP -/
set_option maxRecDepth 100000 in
theorem lifted (os : Os) (started : os.Started) (H : Type) (enc : TypeId × Value → H) :
    ReturnsInHanded {} Try.checked os 3 .any (Rows.logNewestSpec.pre6 enc Try.prog Try.f3 Rows.logNewestRow.domain false) (Rows.logNewestSpec.post enc Try.prog Try.f3 false true false false) := by
  refine returnsInHanded_of_change_sized (C := Try.checked) own started (by kernel_rfl) Try.func3
    (ChangeSpec.witness6 (enc := enc) (C := Try.checked) false ⟨#[], #[.slice none 0 0], []⟩ 8 (by kernel_rfl) (by kernel_rfl) (by kernel_rfl) (by kernel_rfl)) ?_
  intro W base args ds gs before hval0 hW hcnd hsz0 _
  have hval : ∀ (j : Nat) t v, Try.f3.params[j]? = some t → args[j]? = some v → Value.okWide Try.prog W .any base t v := hval0
  have hW' := hW
  obtain ⟨p, q, hA0, hV, rfl, hfz, hnd⟩ := hW
  have hA : DataW.TrodAll enc Try.prog W 0 (fun _ => true) true Try.f3.params.toList args.toList ds p := hA0
  rw [Try.params3] at hA hval
  obtain ⟨v_0, vs_0, d_0, ds_0, p_0, q_0, hargs, rfl, rfl, h_0, r_0⟩ := trodAll_cons hA
  obtain ⟨rfl, rfl, rfl⟩ := trodAll_nil r_0
  obtain rfl : args = #[v_0] := by cases args; simp_all
  obtain ⟨rfl, rfl⟩ := trodVars_none hV
  have hz_0 : Light Try.prog 22 d_0 := light_of hsz0 (j := 0) (by first | rfl | (rw [Try.params3]; rfl)) rfl
  have k_0 := h_0
  have lt_0 : ∀ x ∈ p_0, x.block < W.heap.size := by obtain ⟨m, hm⟩ := k_0; exact DataW.trod_lt m _ _ _ hm
  obtain ⟨la, ln, lc, rfl⟩ := okWide_slice Try.underlying22 (hval 0 22 v_0 rfl rfl)
  obtain ⟨l, h_l⟩ : ∃ l, RowI W la ln lc l := by
    obtain ⟨fuel, hf⟩ := h_0
    obtain ⟨a, m, c, l, hcs, hr⟩ := rowI_of hf hz_0
    simp [Value.cells] at hcs
    obtain ⟨rfl, rfl, rfl⟩ := hcs
    exact ⟨l, hr⟩
  clear hA0 hval0
  refine (walk la ln lc l W h_l).mono fun e W' ⟨he, bel⟩ => ?_
  subst he
  exact ⟨_, rfl, _, _, _, [], _, [], hW', trodAll_mk1 (shut_bool Try.underlying4 _), (trodAll_cons_mk (Below.trod laidOut (by kernel_rfl) (of_decide_eq_true (by kernel_rfl)) k_0 bel lt_0) trodAll_mk0), rfl, bel.frame _, fun h => by cases h⟩

theorem over : Rows.logNewestRow.holds Try.pinned (OpenSpec.ofChange Rows.logNewestSpec) :=
  OpenClaim.holds_of_wide 3 Try.f3 rfl rfl rfl rfl rfl rfl rfl ⟨rfl, rfl, rfl, rfl, rfl⟩ rfl rfl rfl rfl rfl (by kernel_rfl) Try.func3 (by kernel_rfl)
    (of_decide_eq_true (by kernel_rfl)) (by unfold Func.isWrapper; first | (rw [if_pos (by decide +kernel)]; kernel_rfl) | (rw [if_neg (by decide +kernel)]; exact ⟨rfl, rfl⟩))
    (fun os started H enc _ => lifted os started H enc)


end Go.Proofs.Ytkklinjamcfppaa.logNewest
namespace Go.Proofs.Ytkklinjamcfppaa
/-- THE STATEMENT -/
theorem logNewest_holds : Rows.LogNewestSaid := logNewest.over
#print axioms logNewest_holds
end Go.Proofs.Ytkklinjamcfppaa
