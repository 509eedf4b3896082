/-
  Contract of log.entry: what the first line tells, and what is behind it.
-/
import Derived.Test.YtkklinjamcfppaaDoorLogNum
import Derived.Test.YtkklinjamcfppaaDoorLay
namespace Go.Proofs.YtkklinjamcfppaaDoor
open Go.RowKit
set_option linter.unusedVariables false

/-- what ends the q-th number of a line -/
def endE (q : Nat) : UInt8 := if q = 0 then 58 else if q = 1 then 58 else if q = 2 then 120 else 10
def upI4 (v : Nat → Int) (q : Nat) (m : Int) (k : Nat) : Int := if k = q then m else v k
/-- the rest of a line: n numbers, from the q-th on -/
def goE : Nat → Nat → (Nat → Int) → List UInt8 → Option (En × List UInt8)
  | 0, _, v, r => some (⟨v 0, v 1, v 2, v 3⟩, r)
  | n + 1, q, v, r => match fdP (endE q) r with
    | none => none
    | some (m, r') => goE n (q + 1) (upI4 v q m) r'
theorem goE_enP (s : List UInt8) : enP s = goE 4 0 (fun _ => 0) s := by
  unfold enP goE
  rw [show endE 0 = 58 from rfl]
  cases fdP 58 s with
  | none => rfl
  | some p =>
    obtain ⟨f, r1⟩ := p
    show (match fdP 58 r1 with | none => none | some (l, r2) => _) = goE 3 1 _ r1
    unfold goE
    rw [show endE 1 = 58 from rfl]
    cases fdP 58 r1 with
    | none => rfl
    | some p =>
      obtain ⟨l, r2⟩ := p
      show (match fdP 120 r2 with | none => none | some (c, r3) => _) = goE 2 2 _ r2
      unfold goE
      rw [show endE 2 = 120 from rfl]
      cases fdP 120 r2 with
      | none => rfl
      | some p =>
        obtain ⟨c, r3⟩ := p
        show (match fdP 10 r3 with | none => none | some (m, r4) => _) = goE 1 3 _ r3
        unfold goE
        rw [show endE 3 = 10 from rfl]
        cases fdP 10 r3 with
        | none => rfl
        | some p => rfl
theorem cutB_len {b : UInt8} {r x y : List UInt8} (h : cutB b r = some (x, y)) : x.length ≤ r.length ∧ y.length ≤ r.length := by
  have := (cutB_some h).1
  rw [this, List.length_append, List.length_cons]
  omega
/-- what comes of a number -/
theorem fd_cases (b : UInt8) (r : List UInt8) (hr : r.length ≤ 4095) : ∃ (x y : List UInt8) (f c : Bool), (x.length ≤ 4095 ∧ y.length ≤ 4095) ∧ c = canB x ∧ (f = true ∧ cutB b r = some (x, y) ∨ f = false ∧ cutB b r = none ∧ x = r ∧ y = []) ∧
    (f = true ∧ c = true ∧ fdP b r = some ((vlN 0 x : Int), y) ∨ (f = false ∨ c = false) ∧ fdP b r = none) := by
  cases h : cutB b r with
  | none =>
    refine ⟨r, [], false, canB r, ⟨hr, by simp⟩, rfl, Or.inr ⟨rfl, rfl, rfl, rfl⟩, Or.inr ⟨Or.inl rfl, ?_⟩⟩
    unfold fdP
    rw [h]
  | some p =>
    obtain ⟨x, y⟩ := p
    have hl := cutB_len h
    refine ⟨x, y, true, canB x, ⟨by omega, by omega⟩, rfl, Or.inl ⟨rfl, rfl⟩, ?_⟩
    unfold fdP
    rw [h]
    rcases twoB (canB x) with k | k
    · exact Or.inr ⟨Or.inr k, by simp [k]⟩
    · exact Or.inl ⟨rfl, k, by simp [k]⟩
theorem cut_any (b : UInt8) (r x y : List UInt8) (f : Bool) (w : World) (hr : r.length ≤ 4095) (hv : Vb w) (h : f = true ∧ cutB b r = some (x, y) ∨ f = false ∧ cutB b r = none ∧ x = r ∧ y = []) :
    Calls Tryd.prog 31 #[.string (tx r), .string (tx [b])] w fun e w' => e = .returned (.tuple #[.string (tx x), .string (tx y), .bool f]) ∧ Below w.heap.size w w' := by
  rcases h with ⟨rfl, h⟩ | ⟨rfl, h, rfl, rfl⟩
  · exact cut_yes b r x y w hr hv h
  · exact cut_no b _ w hr hv h
theorem run_ends (q : Nat) (h : q < 4) (w : World) : (Instr.index 76 (.agg #[.string ⟨#[58]⟩, .string ⟨#[58]⟩, .string ⟨#[120]⟩, .string ⟨#[10]⟩]) (.int .i64 (q : Int))).run Tryd.prog w = .ok (.string (tx [endE q])) w := by
  rcases (show q = 0 ∨ q = 1 ∨ q = 2 ∨ q = 3 by omega) with rfl | rfl | rfl | rfl <;> simp [Instr.index, run_underlying Tryd.underlying76, asIntOf, go_sem, tx, endE]
def four4 (v : Nat → Int) : List Value := [.int .i64 (v 0), .int .i64 (v 1), .int .i64 (v 2), .int .i64 (v 3)]
theorem four4_set (v : Nat → Int) (q : Nat) (m : Int) (h : q < 4) : (four4 v).set q (.int .i64 m) = four4 (upI4 v q m) := by
  rcases (show q = 0 ∨ q = 1 ∨ q = 2 ∨ q = 3 by omega) with rfl | rfl | rfl | rfl <;> rfl
theorem four4_get (v : Nat → Int) (q : Nat) (h : q < 4) : (four4 v)[q]? = some (.int .i64 (v q)) := by
  rcases (show q = 0 ∨ q = 1 ∨ q = 2 ∨ q = 3 by omega) with rfl | rfl | rfl | rfl <;> rfl

theorem lay_four {w : World} {L : List (List Value)} {W : World} (h : Lay w L W) (i b : Nat) {a0 a1 a2 a3 : Value} (v0 v1 v2 v3 : Value) (e : b = w.heap.size + i) (hi : L[i]? = some [a0, a1, a2, a3]) :
    ∃ w3, ((((W.setCell ⟨b, 0, none⟩ v0).setCell ⟨b, 1, none⟩ v1).setCell ⟨b, 2, none⟩ v2).setCell ⟨b, 3, none⟩ v3) = w3 ∧ Lay w (L.set i [v0, v1, v2, v3]) w3 :=
  ⟨_, rfl, (((h.set i b 0 [a0, a1, a2, a3] v0 e hi (by simp)).again (j := 1) v1 e hi (by simp)).again (j := 2) v2 e hi (by simp)).again (j := 3) v3 e hi (by simp)⟩

set_option maxHeartbeats 8000000 in
theorem entry_any (l : List UInt8) (w : World) (hl : l.length ≤ 4095) (hv : Vb w) (x : En) (r : List UInt8) (k : Bool) (h : k = true ∧ enP l = some (x, r) ∨ k = false ∧ enP l = none ∧ x = ⟨0, 0, 0, 0⟩ ∧ r = []) :
    Calls Tryd.prog 37 #[.string (tx l)] w fun e w' => e = .returned (.tuple #[.agg #[.int .i64 x.f, .int .i64 x.l, .int .i64 x.c, .int .i64 x.m], .string (tx r), .bool k]) ∧ Below w.heap.size w w' := by
  have HE : Hid (_) := h
  have HV : Hid (Vb w) := hv
  have HL : Hid (l.length ≤ 4095) := hl
  have G0 : Hid (enP l = goE (4 - 0) 0 (fun _ => 0) l) := goE_enP l
  clear h hv hl
  obtain ⟨W0, hW0, B0', Z0'⟩ := lay2n w #[.int .i64 0, .int .i64 0, .int .i64 0, .int .i64 0] #[.int .i64 0, .int .i64 0, .int .i64 0, .int .i64 0] 33 63
  have HW : Hid (_) := hW0
  have B0 : Hid (_) := B0'
  clear hW0 B0' Z0'
  obtain ⟨EA, hEA⟩ : ∃ EA : Array Value, #[.string ⟨#[58]⟩, .string ⟨#[58]⟩, .string ⟨#[120]⟩, .string ⟨#[10]⟩] = EA := ⟨_, rfl⟩
  have HX : Hid (∀ (q : Nat) (W : World), q < 4 → (Instr.index 76 (.agg EA) (.int .i64 (q : Int))).run Tryd.prog W = .ok (.string (tx [endE q])) W) := fun q W hq => by
    rw [← hEA]
    exact run_ends q hq W
  go_enter Tryd.func37, Tryd.ntmps37
  go_wp2_with fail
  rw [HW.out]
  clear HW hEA
  go_loopg [0, 14] 5 (fun g s0 s14 wr => ∃ (q : Nat) (v : Nat → Int) (r' : List UInt8), s0 = .string (tx r') ∧ s14 = .int .i64 q ∧ Hid (4 - q < g) ∧ Hid (q ≤ 4) ∧ Hid (r'.length ≤ 4095) ∧ Hid (enP l = goE (4 - q) q v r') ∧ Hid (Lay w [four4 fun _ => 0, four4 v] wr))
  case atStart => exact ⟨0, fun _ => 0, l, rfl, rfl, (by decide : 4 - 0 < 5), (by decide : 0 ≤ 4), HL.out, G0.out, B0.out⟩
  case round =>
    obtain ⟨q, v, s, rfl, rfl, Hg, Hq, HS, HG, HB⟩ := hrel
    clear G0 B0
    by_cases hlt : q < 4
    · obtain ⟨y, z, f, c, ⟨hy, hz⟩, hc, hcut, hfd⟩ := fd_cases (endE q) s HS.out
      have CC : Hid (∀ W, Below wr.heap.size wr W → Calls Tryd.prog 31 #[.string (tx s), .string (tx [endE q])] W fun e w' => e = .returned (.tuple #[.string (tx y), .string (tx z), .bool f]) ∧ Below W.heap.size W w') := fun W hW => cut_any _ _ _ _ _ W HS.out ((HV.out.step HB.out.bel).step hW) hcut
      have CN : Hid (∀ W, Below wr.heap.size wr W → Calls Tryd.prog 42 #[.string (tx y)] W fun e w' => ∃ m, e = .returned (.tuple #[.int .i64 m, .bool c]) ∧ (c = true → m = (vlN 0 y : Int)) ∧ Below W.heap.size W w') := fun W hW => by
        rw [hc]
        exact number_any y W hy ((HV.out.step HB.out.bel).step hW)
      have HG2 : Hid (∀ m : Int, (c = true → m = (vlN 0 y : Int)) → (f = true ∧ c = true ∧ enP l = goE (4 - (q + 1)) (q + 1) (upI4 v q m) z ∨ (f = false ∨ c = false) ∧ enP l = none)) := fun m hm => by
        have e := HG.out
        rw [show 4 - q = (4 - (q + 1)) + 1 by omega] at e
        unfold goE at e
        rcases hfd with ⟨h1, h2, h3⟩ | ⟨h1, h3⟩
        · rw [h3] at e
          exact Or.inl ⟨h1, h2, by rw [hm h2]; exact e⟩
        · rw [h3] at e
          exact Or.inr ⟨h1, e⟩
      clear hc hcut hfd
      have HZ : Hid (z.length ≤ 4095) := hz
      have hX := fun W => HX.out q W hlt
      have z1 : (q : Int) < 4 := by omega
      have z0 : (0 : Int) ≤ (q : Int) := by omega
      have L0 : Hid (Below wr.heap.size wr wr) := Below.refl _ _
      generalize tx [endE q] = T at CC hX
      clear hy hz HG HS
      go_wp2_with fail
      refine (CC.out _ L0.out).mono ?_
      rintro e w1 ⟨rfl, hb1⟩
      have L1 : Hid (Below wr.heap.size wr w1) := hb1
      clear hb1 hX
      go_wp2_with fail
      refine (CN.out _ L1.out).mono ?_
      rintro e w2 ⟨m, rfl, hm, hb2⟩
      have L2 : Hid (Below wr.heap.size wr w2) := below_then L1.out hb2 L1.out.size
      have HG3 : Hid (_) := HG2.out m hm
      clear hb2 hm CN CC L1 L0
      have B2 : Hid (_) := HB.out.step L2.out
      clear HB
      have HC0 : Hid (Cells w2 w.heap.size (four4 fun _ => 0)) := B2.out.blk 0 w.heap.size _ rfl rfl
      have HC1 : Hid (Cells w2 (w.heap.size + 1) (four4 v)) := B2.out.blk 1 (w.heap.size + 1) _ rfl rfl
      have HF : Hid ((f = false ∨ c = false) → k = false ∧ x = ⟨0, 0, 0, 0⟩ ∧ r = []) := fun hfc => by
        rcases HG3.out with ⟨h1, h2, _⟩ | ⟨_, h3⟩
        · rcases hfc with rfl | rfl
          · cases h1
          · cases h2
        · rcases HE.out with ⟨_, h4⟩ | ⟨h4, _, h5⟩
          · rw [h3] at h4; cases h4
          · exact ⟨h4, h5⟩
      have HT : Hid (f = true → c = true → enP l = goE (4 - (q + 1)) (q + 1) (upI4 v q m) z) := fun h1 h2 => by
        rcases HG3.out with ⟨_, _, h3⟩ | ⟨h3, _⟩
        · exact h3
        · rcases h3 with h3 | h3
          · rw [h1] at h3; cases h3
          · rw [h2] at h3; cases h3
      clear HG2 HG3
      by_cases hfc : f = true ∧ c = true
      · obtain ⟨rfl, rfl⟩ := hfc
        have HT2 : Hid (_) := HT.out rfl rfl
        clear HT HF
        have d0 := HC1.out.cell q _ (four4_get v q hlt)
        have d1 := HC1.out.froz q _ (four4_get v q hlt)
        have d2 := HC1.out.lt
        have B3 : Hid (Lay w [four4 fun _ => 0, four4 (upI4 v q m)] (w2.setCell ⟨w.heap.size + 1, q, none⟩ (.int .i64 m))) := by
          have := B2.out.set 1 (w.heap.size + 1) q (four4 v) (.int .i64 m) rfl rfl hlt
          rw [four4_set v q m hlt] at this
          exact this
        go_wp2_with fail
        go_roundg (4 - (q + 1) + 1)
        case measure => exact (by have := Hg.out; omega)
        case rel => exact ⟨q + 1, upI4 v q m, z, rfl, by go_num, (by omega : 4 - (q + 1) < 4 - (q + 1) + 1), (by omega : q + 1 ≤ 4), HZ.out, HT2.out, B3.out⟩
      · have hF : f = false ∨ c = false := by
          rcases twoB f with k1 | k1
          · exact Or.inl k1
          · rcases twoB c with k2 | k2
            · exact Or.inr k2
            · exact absurd ⟨k1, k2⟩ hfc
        obtain ⟨h1, h2, h3⟩ := HF.out hF
        subst h1 h2 h3
        clear HF HT hfc
        have d0 := HC0.out.cell 0 _ rfl
        have d1 := HC0.out.cell 1 _ rfl
        have d2 := HC0.out.cell 2 _ rfl
        have d3 := HC0.out.cell 3 _ rfl
        have e0 := HC0.out.froz 0 _ rfl
        have e1 := HC0.out.froz 1 _ rfl
        have e2 := HC0.out.froz 2 _ rfl
        have e3 := HC0.out.froz 3 _ rfl
        have el := HC0.out.lt
        rcases twoB f with rfl | rfl
        · go_wp2_with fail
          obtain ⟨w3, hw3, B3⟩ := lay_four B2.out 0 w.heap.size (.int .i64 0) (.int .i64 0) (.int .i64 0) (.int .i64 0) rfl rfl
          rw [hw3]
          obtain ⟨hl3, y0, y1⟩ := B3.blk 0 w.heap.size _ rfl rfl
          have c0 := y0 0 _ rfl
          have c1 := y0 1 _ rfl
          have c2 := y0 2 _ rfl
          have c3 := y0 3 _ rfl
          refine bodyPost_ret (by simp [results, Tryd.results37, go_sem, c0, c1, c2, c3]; try rfl) rfl ?_
          exact ⟨rfl, B3.bel⟩
        · rcases twoB c with rfl | rfl
          · go_wp2_with fail
            obtain ⟨w3, hw3, B3⟩ := lay_four B2.out 0 w.heap.size (.int .i64 0) (.int .i64 0) (.int .i64 0) (.int .i64 0) rfl rfl
            rw [hw3]
            obtain ⟨hl3, y0, y1⟩ := B3.blk 0 w.heap.size _ rfl rfl
            have c0 := y0 0 _ rfl
            have c1 := y0 1 _ rfl
            have c2 := y0 2 _ rfl
            have c3 := y0 3 _ rfl
            refine bodyPost_ret (by simp [results, Tryd.results37, go_sem, c0, c1, c2, c3]; try rfl) rfl ?_
            exact ⟨rfl, B3.bel⟩
          · exact absurd hF (by simp)
    · obtain rfl : q = 4 := by have := Hq.out; omega
      have z1 : ¬ (((4 : Nat) : Int)) < 4 := by omega
      have HE2 : Hid (k = true ∧ x = ⟨v 0, v 1, v 2, v 3⟩ ∧ r = s) := by
        have e : enP l = some (⟨v 0, v 1, v 2, v 3⟩, s) := HG.out
        rcases HE.out with ⟨h1, h2⟩ | ⟨_, h2, _⟩
        · rw [e] at h2
          simp only [Option.some.injEq, Prod.mk.injEq] at h2
          exact ⟨h1, h2.1.symm, h2.2.symm⟩
        · rw [e] at h2; cases h2
      obtain ⟨h1, h2, h3⟩ := HE2.out
      subst h1 h2 h3
      have HC0 : Hid (Cells wr w.heap.size (four4 fun _ => 0)) := HB.out.blk 0 w.heap.size _ rfl rfl
      have HC1 : Hid (Cells wr (w.heap.size + 1) (four4 v)) := HB.out.blk 1 (w.heap.size + 1) _ rfl rfl
      clear HE HE2 HG hlt
      have d0 := HC0.out.cell 0 _ rfl
      have d1 := HC0.out.cell 1 _ rfl
      have d2 := HC0.out.cell 2 _ rfl
      have d3 := HC0.out.cell 3 _ rfl
      have e0 := HC0.out.froz 0 _ rfl
      have e1 := HC0.out.froz 1 _ rfl
      have e2 := HC0.out.froz 2 _ rfl
      have e3 := HC0.out.froz 3 _ rfl
      have el := HC0.out.lt
      have g0 := HC1.out.cell 0 _ rfl
      have g1 := HC1.out.cell 1 _ rfl
      have g2 := HC1.out.cell 2 _ rfl
      have g3 := HC1.out.cell 3 _ rfl
      have gl := HC1.out.lt
      go_wp2_with fail
      obtain ⟨w3, hw3, B3⟩ := lay_four HB.out 0 w.heap.size (.int .i64 (v 0)) (.int .i64 (v 1)) (.int .i64 (v 2)) (.int .i64 (v 3)) rfl rfl
      rw [hw3]
      obtain ⟨hl3, y0, y1⟩ := B3.blk 0 w.heap.size _ rfl rfl
      have c0 := y0 0 _ rfl
      have c1 := y0 1 _ rfl
      have c2 := y0 2 _ rfl
      have c3 := y0 3 _ rfl
      refine bodyPost_ret (by simp [results, Tryd.results37, go_sem, c0, c1, c2, c3]; try rfl) rfl ?_
      exact ⟨rfl, B3.bel⟩

end Go.Proofs.YtkklinjamcfppaaDoor
