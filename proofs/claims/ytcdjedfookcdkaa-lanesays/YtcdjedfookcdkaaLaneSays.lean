/-
  Whatever is handed in, the law LaneSays returns true: all calls of package lane answer what the document says. No condition.
-/
import Derived.Test.YtcdjedfookcdkaaLanAll
import Derived.Test.YtcdjedfookcdkaaRLan
import Derived.Test.YtcdjedfookcdkaaBxs
import Derived.Test.YtcdjedfookcdkaaOpenZ
import Derived.Laws.StructEq
import Derived.ProofKit
namespace Go.Proofs.Ytcdjedfookcdkaa.laneSays
open Go.ChangeShapes Go.WideShapes Go.ChangeAt Go.RowKit
set_option linter.unusedVariables false

theorem own : ownKnob Try.prog.godebug = none := by kernel_rfl
theorem laidOut : laidOutB Try.prog = true := by kernel_rfl

theorem list3 {l : List Value} (h : l.length = 3) : ∃ c0 c1 c2, l = [c0, c1, c2] := by
  match l, h with
  | [c0, c1, c2], _ => exact ⟨c0, c1, c2, rfl⟩

theorem open23 {H : Type} {enc : TypeId × Value → H} {w : World} {base : Nat} {spare : Nat → Bool} {held : Bool} {fuel : Nat} {cs : List Value} {x : DataW H × List MemPlace} (h : DataW.trod enc Try.prog w base spare held fuel 23 cs = some x) (hz : Light Try.prog 23 x.1) :
    ∃ vMode : Int, ∃ vFailed : Bool, ∃ vFor : Int, cs = [.int .i64 vMode, .bool vFailed, .int .i64 vFor] ∧ (Lit.int .i64 vMode).wf = true ∧ (Lit.int .i64 vFor).wf = true := by
  obtain ⟨hl, hf⟩ := trod_field_z Try.underlying23 h hz
  rw [show Try.prog.cellsOf 23 = 3 from by kernel_rfl] at hl
  obtain ⟨c0, c1, c2, rfl⟩ := list3 hl
  obtain ⟨n0, y0, h0, z0⟩ := hf 0 _ rfl
  replace h0 : DataW.trod enc Try.prog w base spare held n0 3 (([c0, c1, c2] : List Value).drop 0 |>.take (Try.prog.cellsOf 3)) = some y0 := h0
  rw [show Try.prog.cellsOf 3 = 1 from by kernel_rfl] at h0
  replace h0 : DataW.trod enc Try.prog w base spare held n0 3 [c0] = some y0 := h0
  obtain ⟨n1, y1, h1, z1⟩ := hf 1 _ rfl
  replace h1 : DataW.trod enc Try.prog w base spare held n1 4 (([c0, c1, c2] : List Value).drop 1 |>.take (Try.prog.cellsOf 4)) = some y1 := h1
  rw [show Try.prog.cellsOf 4 = 1 from by kernel_rfl] at h1
  replace h1 : DataW.trod enc Try.prog w base spare held n1 4 [c1] = some y1 := h1
  obtain ⟨n2, y2, h2, z2⟩ := hf 2 _ rfl
  replace h2 : DataW.trod enc Try.prog w base spare held n2 3 (([c0, c1, c2] : List Value).drop 2 |>.take (Try.prog.cellsOf 3)) = some y2 := h2
  rw [show Try.prog.cellsOf 3 = 1 from by kernel_rfl] at h2
  replace h2 : DataW.trod enc Try.prog w base spare held n2 3 [c2] = some y2 := h2
  obtain ⟨x0, e0, _, f0_0⟩ := DataW.trod_int Try.underlying3 h0
  simp only [List.cons.injEq, and_true] at e0
  obtain rfl := e0
  obtain ⟨x1, e1, _⟩ := DataW.trod_bool Try.underlying4 h1
  simp only [List.cons.injEq, and_true] at e1
  obtain rfl := e1
  obtain ⟨x2, e2, _, f2_0⟩ := DataW.trod_int Try.underlying3 h2
  simp only [List.cons.injEq, and_true] at e2
  obtain rfl := e2
  exact ⟨x0, x1, x2, rfl, f0_0, f2_0⟩


theorem bxs_init {w W : World} {L : List (Nat × List Value)} {p : Nat × List Value} (h : Bxs w (L ++ [p]) W) : Bxs w L W := by
  have k : ∀ (i : Nat) (x : Nat × List Value), L[i]? = some x → (L ++ [p])[i]? = some x := fun i x hi => by
    rw [List.getElem?_append_left (List.getElem?_eq_some_iff.1 hi).1]
    exact hi
  exact ⟨h.bel, fun i b vs hi => h.box i b vs (k i _ hi), fun i b vs hi => h.own i b vs (k i _ hi), fun i j b c vs us hi hj => h.nd i j b c vs us (k i _ hi) (k j _ hj)⟩
/-- as far as the events are right -/
theorem stop_at (f : Nat → Int) (k : Nat) : ∃ (q : Nat) (x : Int), (∀ j, j < q → 1 ≤ f j ∧ f j ≤ 7) ∧ (q = k ∧ x = 0 ∨ q < k ∧ (f q < 1 ∨ 7 < f q) ∧ x = 1) := by
  induction k with
  | zero => exact ⟨0, 0, fun j hj => absurd hj (by omega), Or.inl ⟨rfl, rfl⟩⟩
  | succ k ih =>
    obtain ⟨q, x, h1, h2⟩ := ih
    rcases h2 with ⟨rfl, rfl⟩ | ⟨h3, h4, rfl⟩
    · by_cases g : 1 ≤ f q ∧ f q ≤ 7
      · refine ⟨q + 1, 0, fun j hj => ?_, Or.inl ⟨rfl, rfl⟩⟩
        by_cases e : j = q
        · subst e; exact g
        · exact h1 j (by omega)
      · exact ⟨q, 1, h1, Or.inr ⟨by omega, by omega, rfl⟩⟩
    · exact ⟨q, 1, h1, Or.inr ⟨by omega, h4, rfl⟩⟩

set_option maxHeartbeats 8000000 in
set_option maxRecDepth 100000 in
theorem walk_bad (m : Int) (b : Bool) (n E : Int) (a : Option Addr) (k cap : Nat) (w : World) (h : lE m b n = E) (hE : E = 1 ∨ E = 4) :
    Calls Try.prog 3 #[.agg #[.int .i64 m, .bool b, .int .i64 n], .slice a k cap] w fun e w' => e = .returned (.bool true) ∧ Below w.heap.size w w' := by
  have CR : Hid (_) := fun W => rlerr_any m b n W
  have CK : Hid (_) := fun W => lcheck_any m b n W
  have CT : Hid (_) := fun W => ltick_bad m b n E W h hE
  have CA : Hid (_) := fun W => all_bad m b n E (.slice a k cap) W h hE
  have CN : Hid (_) := fun W => next_bad m b n 1 E W h hE
  rw [h] at CK CR
  obtain ⟨N0, W0, hW0, hN0, B0', Z0'⟩ := (bxs_nil w).new #[.int .i64 m, .bool b, .int .i64 n] 23
  have HW : Hid (_) := hW0
  have HN : Hid (_) := hN0
  have B0 : Hid (_) := B0'
  clear hW0 hN0 B0' Z0' h
  go_enter Try.func3, Try.ntmps3
  go_wp2_with fail
  rw [HW.out, HN.out]
  clear HW HN
  refine (CR.out _).mono ?_
  rintro r w1 ⟨rfl, hb⟩
  have B1 : Hid (_) := B0.out.step hb
  clear hb B0 CR
  have pl := (B1.out.box 0 _ _ rfl).lt
  have p0 := (B1.out.box 0 _ _ rfl).cell 0 _ rfl
  have p1 := (B1.out.box 0 _ _ rfl).cell 1 _ rfl
  have p2 := (B1.out.box 0 _ _ rfl).cell 2 _ rfl
  go_wp2_with fail
  refine (CT.out _).mono ?_
  rintro r w2 ⟨rfl, hb⟩
  have B2 : Hid (_) := B1.out.step hb
  clear hb B1 CT
  clear pl p0 p1 p2
  have pl := (B2.out.box 0 _ _ rfl).lt
  have p0 := (B2.out.box 0 _ _ rfl).cell 0 _ rfl
  have p1 := (B2.out.box 0 _ _ rfl).cell 1 _ rfl
  have p2 := (B2.out.box 0 _ _ rfl).cell 2 _ rfl
  go_wp2_with fail
  obtain ⟨N1, W1, hW1, hN1, B3', Z1⟩ := B2.out.new #[.int .i64 0, .bool false, .int .i64 0] 23
  rw [hW1, hN1]
  have B3 : Hid (_) := B3'
  clear hW1 hN1 B3' B2 Z1
  clear pl p0 p1 p2
  refine (CA.out _).mono ?_
  rintro r w3 ⟨rfl, hb⟩
  have B4 : Hid (_) := B3.out.step hb
  clear hb B3 CA
  have pl := (B4.out.box 0 _ _ rfl).lt
  have p0 := (B4.out.box 0 _ _ rfl).cell 0 _ rfl
  have p1 := (B4.out.box 0 _ _ rfl).cell 1 _ rfl
  have p2 := (B4.out.box 0 _ _ rfl).cell 2 _ rfl
  go_wp2_with fail
  obtain ⟨N2, W2, hW2, hN2, B5', Z2⟩ := B4.out.new #[.int .i64 0, .bool false, .int .i64 0] 23
  rw [hW2, hN2]
  have B5 : Hid (_) := B5'
  clear hW2 hN2 B5' B4 Z2
  clear pl p0 p1 p2
  refine (CK.out _).mono ?_
  rintro r w4 ⟨rfl, hb⟩
  have B6 : Hid (_) := B5.out.step hb
  clear hb B5 CK
  have pl := (B6.out.box 0 _ _ rfl).lt
  have p0 := (B6.out.box 0 _ _ rfl).cell 0 _ rfl
  have p1 := (B6.out.box 0 _ _ rfl).cell 1 _ rfl
  have p2 := (B6.out.box 0 _ _ rfl).cell 2 _ rfl
  rcases hE with rfl | rfl
  all_goals
    go_wp2_with fail
    refine (CN.out _).mono ?_
    rintro r w5 ⟨rfl, hb⟩
    have B7 : Hid (_) := B6.out.step hb
    clear hb B6 CN
    clear pl p0 p1 p2
    have xl := (B7.out.box 1 _ _ rfl).lt
    have x0 := (B7.out.box 1 _ _ rfl).cell 0 _ rfl
    have x1 := (B7.out.box 1 _ _ rfl).cell 1 _ rfl
    have x2 := (B7.out.box 1 _ _ rfl).cell 2 _ rfl
    have yl := (B7.out.box 2 _ _ rfl).lt
    have y0 := (B7.out.box 2 _ _ rfl).cell 0 _ rfl
    have y1 := (B7.out.box 2 _ _ rfl).cell 1 _ rfl
    have y2 := (B7.out.box 2 _ _ rfl).cell 2 _ rfl
    go_wp2_with fail
    go_ret
    exact ⟨rfl, (B7.out.alloc _).bel⟩

set_option maxHeartbeats 16000000 in
set_option maxRecDepth 100000 in
theorem walk_ok (m : Int) (b : Bool) (n T : Int) (a : Option Addr) (k cap q : Nat) (f : Nat → Int) (x : Int) (M : Int) (Bb : Bool) (F : Int) (w : World) (h : lE m b n = 0) (hk : k ≤ 17592186043904)
    (hl : 0 < k → ∃ b off, a = some ⟨b, off, none⟩ ∧ b < w.heap.size ∧ ∀ j : Nat, j < k → w.cell? ⟨b, off + j, none⟩ = some (.int .i64 (f j)))
    (hf : ∀ j, j < q → 1 ≤ f j ∧ f j ≤ 7) (hq : q = k ∧ x = 0 ∨ q < k ∧ (f q < 1 ∨ 7 < f q) ∧ x = 1) (hr : rnS (m, b, n) f q = (M, Bb, F)) (hT : tkI n = T) :
    Calls Try.prog 3 #[.agg #[.int .i64 m, .bool b, .int .i64 n], .slice a k cap] w fun e w' => e = .returned (.bool true) ∧ Below w.heap.size w w' := by
  obtain ⟨_, ⟨n1, n2⟩, _⟩ := lE_ok h
  have hmin : ∀ (ts : Array TypeId) (t : TypeId) (W : World), (Builtin.min_ ts t #[.int .i64 10000, .int .i64 (n + 1)]).run Try.prog W = .ok (.int .i64 T) W := fun ts t W => by
    rw [← hT, run_min_int2 W ts t .i64 .i64 10000 (n + 1)]
    unfold tkI
    split <;> split <;> first | rfl | (congr 2; omega) | omega
  have CR : Hid (_) := fun W => rlerr_any m b n W
  have CK : Hid (_) := fun W => lcheck_any m b n W
  have CT : Hid (_) := fun W => ltick_ok m b n W h
  rw [hT] at CT
  have HL : Hid (_) := hl
  have CA : Hid (∀ W, Below w.heap.size w W → Calls Try.prog 8 #[.agg #[.int .i64 m, .bool b, .int .i64 n], .slice a k cap] W fun r w' => r = .returned (.tuple #[.agg #[.int .i64 M, .bool Bb, .int .i64 F], .int .i64 q, .int .i64 x]) ∧ Below W.heap.size W w') := fun W hb =>
    all_ok m b n a k cap q f x M Bb F W h hk (fun hp => by
      obtain ⟨b0, off, rfl, h1, h2⟩ := hl hp
      exact ⟨b0, off, rfl, Nat.lt_of_lt_of_le h1 hb.size, fun j hj => (hb.cell (p := ⟨b0, off + j, none⟩) h1).trans (h2 j hj)⟩) hf hq hr
  have HF : Hid (∀ j, j < q → 1 ≤ f j ∧ f j ≤ 7) := hf
  have HQ : Hid (_) := hq
  have HR : Hid (rnS (m, b, n) f q = (M, Bb, F)) := hr
  have HE : Hid (lE m b n = 0) := h
  have hqk : q ≤ k := by omega
  rw [h] at CK CR
  obtain ⟨N0, W0, hW0, hN0, B0', Z0'⟩ := (bxs_nil w).new #[.int .i64 m, .bool b, .int .i64 n] 23
  have HW : Hid (_) := hW0
  have HN : Hid (_) := hN0
  have B0 : Hid (_) := B0'
  clear hW0 hN0 B0' Z0' h hl hf hq hr hT
  go_enter Try.func3, Try.ntmps3
  go_wp2_with fail
  rw [HW.out, HN.out]
  clear HW HN
  refine (CR.out _).mono ?_
  rintro r w1 ⟨rfl, hb⟩
  have B1 : Hid (_) := B0.out.step hb
  clear hb B0 CR
  have pl := (B1.out.box 0 _ _ rfl).lt
  have p0 := (B1.out.box 0 _ _ rfl).cell 0 _ rfl
  have p1 := (B1.out.box 0 _ _ rfl).cell 1 _ rfl
  have p2 := (B1.out.box 0 _ _ rfl).cell 2 _ rfl
  go_wp2_with fail
  refine (CT.out _).mono ?_
  rintro r w2 ⟨rfl, hb⟩
  have B2 : Hid (_) := B1.out.step hb
  clear hb B1 CT
  clear pl p0 p1 p2
  have pl := (B2.out.box 0 _ _ rfl).lt
  have p0 := (B2.out.box 0 _ _ rfl).cell 0 _ rfl
  have p1 := (B2.out.box 0 _ _ rfl).cell 1 _ rfl
  have p2 := (B2.out.box 0 _ _ rfl).cell 2 _ rfl
  go_wp2_with fail
  obtain ⟨N1, W1, hW1, hN1, B3', Z1⟩ := B2.out.new #[.int .i64 m, .bool b, .int .i64 T] 23
  rw [hW1, hN1]
  have B3 : Hid (_) := B3'
  clear hW1 hN1 B3' B2 Z1
  clear pl p0 p1 p2
  refine (CA.out _ B3.out.bel).mono ?_
  rintro r w3 ⟨rfl, hb⟩
  have B4 : Hid (_) := B3.out.step hb
  clear hb B3 CA
  have pl := (B4.out.box 0 _ _ rfl).lt
  have p0 := (B4.out.box 0 _ _ rfl).cell 0 _ rfl
  have p1 := (B4.out.box 0 _ _ rfl).cell 1 _ rfl
  have p2 := (B4.out.box 0 _ _ rfl).cell 2 _ rfl
  go_wp2_with fail
  obtain ⟨N2, W2, hW2, hN2, B5', Z2⟩ := B4.out.new #[.int .i64 M, .bool Bb, .int .i64 F] 23
  rw [hW2, hN2]
  have B5 : Hid (_) := B5'
  clear hW2 hN2 B5' B4 Z2
  clear pl p0 p1 p2
  refine (CK.out _).mono ?_
  rintro r w4 ⟨rfl, hb⟩
  have B6 : Hid (_) := B5.out.step hb
  clear hb B5 CK
  have pl := (B6.out.box 0 _ _ rfl).lt
  have p0 := (B6.out.box 0 _ _ rfl).cell 0 _ rfl
  have p1 := (B6.out.box 0 _ _ rfl).cell 1 _ rfl
  have p2 := (B6.out.box 0 _ _ rfl).cell 2 _ rfl
  have tl := (B6.out.box 1 _ _ rfl).lt
  have t0 := (B6.out.box 1 _ _ rfl).cell 0 _ rfl
  have t1 := (B6.out.box 1 _ _ rfl).cell 1 _ rfl
  have t2 := (B6.out.box 1 _ _ rfl).cell 2 _ rfl
  go_wp2_with fail
  obtain ⟨N3, W3, hW3, hN3, B7', Z3⟩ := B6.out.new #[.int .i64 m, .bool b, .int .i64 T] 23
  obtain ⟨N4, W4, hW4, hN4, B8', Z4⟩ := B7'.new #[.int .i64 m, .bool b, .int .i64 n] 23
  rw [← hW3, lay_size] at hN4
  rw [← hW3] at hW4
  rw [hW4, hN4, hN3]
  have B8 : Hid (Bxs w [(N0, [.int .i64 m, .bool b, .int .i64 n]), (N1, [.int .i64 m, .bool b, .int .i64 T]), (N2, [.int .i64 M, .bool Bb, .int .i64 F]), (N3, [.int .i64 m, .bool b, .int .i64 T]), (N4, [.int .i64 m, .bool b, .int .i64 n])] W4) := B8'
  clear hW3 hN3 B7' Z3 hW4 hN4 B8' Z4 B6
  clear pl p0 p1 p2
  clear tl t0 t1 t2
  go_loopg [92] (q + 1) (fun g v wr => ∃ (j : Nat) (m1 : Int) (b1 : Bool) (n1 : Int), v = .int .i64 j ∧ q - j < g ∧ j ≤ q ∧ Hid (rnS (m, b, n) f j = (m1, b1, n1)) ∧ Hid (lE m1 b1 n1 = 0) ∧ Hid (Bxs w [(N0, [.int .i64 m, .bool b, .int .i64 n]), (N1, [.int .i64 m, .bool b, .int .i64 T]), (N2, [.int .i64 M, .bool Bb, .int .i64 F]), (N3, [.int .i64 m, .bool b, .int .i64 T]), (N4, [.int .i64 m1, .bool b1, .int .i64 n1])] wr))
  case atStart => exact ⟨0, m, b, n, rfl, by omega, by omega, rfl, HE.out, B8.out⟩
  case round =>
    obtain ⟨j, m1, b1, c1, rfl, hg, hj, HR1, HE1, HB⟩ := hrel
    clear B8
    have xl := (HB.out.box 2 _ _ rfl).lt
    have x0 := (HB.out.box 2 _ _ rfl).cell 0 _ rfl
    have x1 := (HB.out.box 2 _ _ rfl).cell 1 _ rfl
    have x2 := (HB.out.box 2 _ _ rfl).cell 2 _ rfl
    have yl := (HB.out.box 4 _ _ rfl).lt
    have y0 := (HB.out.box 4 _ _ rfl).cell 0 _ rfl
    have y1 := (HB.out.box 4 _ _ rfl).cell 1 _ rfl
    have y2 := (HB.out.box 4 _ _ rfl).cell 2 _ rfl
    by_cases hjq : j < q
    · have z1 : (j : Int) < (k : Int) := by omega
      obtain ⟨b0, off, rfl, hbl, hcell⟩ := HL.out (by omega)
      have x00 := (HB.out.bel.cell (p := ⟨b0, off + j, none⟩) hbl).trans (hcell j (by omega))
      clear hcell
      obtain ⟨e1, e2⟩ := HF.out j hjq
      have e3 : ¬ f j < 1 := by omega
      have e4 : ¬ 7 < f j := by omega
      have HR2 : Hid (rnS (m, b, n) f (j + 1) = (nM m1 b1 (f j), nB b1 (f j), nF m1 (nM m1 b1 (f j)) c1)) := by show stp (rnS (m, b, n) f j) (f j) = _; rw [HR1.out]; rfl
      have HE2 : Hid (lE (nM m1 b1 (f j)) (nB b1 (f j)) (nF m1 (nM m1 b1 (f j)) c1) = 0) := lE_next HE1.out e1 e2
      have CN : Hid (_) := fun W => next_ok m1 b1 c1 (f j) W HE1.out e1 e2
      have CM : Hid (_) := fun W => rnext_any m1 b1 c1 (f j) W e1 e2
      generalize nF m1 (nM m1 b1 (f j)) c1 = c2 at *
      generalize nM m1 b1 (f j) = m2 at *
      generalize nB b1 (f j) = b2 at *
      go_wp2_with fail
      refine (CN.out _).mono ?_
      rintro r w5 ⟨rfl, hb⟩
      have B9 : Hid (_) := HB.out.step hb
      clear hb HB CN x00
      clear xl x0 x1 x2
      clear yl y0 y1 y2
      have yl := (B9.out.box 4 _ _ rfl).lt
      have y0 := (B9.out.box 4 _ _ rfl).cell 0 _ rfl
      have y1 := (B9.out.box 4 _ _ rfl).cell 1 _ rfl
      have y2 := (B9.out.box 4 _ _ rfl).cell 2 _ rfl
      go_wp2_with fail
      obtain ⟨N5, W5, hW5, hN5, B10', Z5⟩ := B9.out.new #[.int .i64 m2, .bool b2, .int .i64 c2] 23
      rw [hW5, hN5]
      have B10 : Hid (_) := B10'
      clear hW5 hN5 B10' Z5 B9
      clear yl y0 y1 y2
      refine (CM.out _).mono ?_
      rintro r w6 ⟨rfl, hb⟩
      have B11 : Hid (_) := B10.out.step hb
      clear hb B10 CM
      have yl := (B11.out.box 4 _ _ rfl).lt
      have y0 := (B11.out.box 4 _ _ rfl).cell 0 _ rfl
      have y1 := (B11.out.box 4 _ _ rfl).cell 1 _ rfl
      have y2 := (B11.out.box 4 _ _ rfl).cell 2 _ rfl
      have yf0 := (B11.out.box 4 _ _ rfl).froz 0 _ rfl
      have yf1 := (B11.out.box 4 _ _ rfl).froz 1 _ rfl
      have yf2 := (B11.out.box 4 _ _ rfl).froz 2 _ rfl
      have zl := (B11.out.box 5 _ _ rfl).lt
      have z0 := (B11.out.box 5 _ _ rfl).cell 0 _ rfl
      have z1 := (B11.out.box 5 _ _ rfl).cell 1 _ rfl
      have z2 := (B11.out.box 5 _ _ rfl).cell 2 _ rfl
      have hne : N5 ≠ N4 := B11.out.nd 5 4 _ _ _ _ rfl rfl (by omega)
      have hne2 : N4 ≠ N5 := Ne.symm hne
      go_wp2_with fail
      obtain ⟨w7, hw7, B12⟩ := B11.out.put3 4 N4 (.int .i64 m2) (.bool b2) (.int .i64 c2) rfl
      rw [hw7]
      have B13 : Hid (Bxs w [(N0, [.int .i64 m, .bool b, .int .i64 n]), (N1, [.int .i64 m, .bool b, .int .i64 T]), (N2, [.int .i64 M, .bool Bb, .int .i64 F]), (N3, [.int .i64 m, .bool b, .int .i64 T]), (N4, [.int .i64 m2, .bool b2, .int .i64 c2])] w7) := bxs_init B12
      clear hw7 B12
      go_roundg (q - (j + 1) + 1)
      case measure => omega
      case rel => exact ⟨j + 1, m2, b2, c2, by go_num, by omega, by omega, HR2.out, HE2.out, B13.out⟩
    · obtain rfl : j = q := by omega
      have e5 : (m1, b1, c1) = (M, Bb, F) := HR1.out.symm.trans HR.out
      simp only [Prod.mk.injEq] at e5
      obtain ⟨rfl, rfl, rfl⟩ := e5
      rcases HQ.out with ⟨rfl, rfl⟩ | ⟨hlt, hbad, rfl⟩
      · have z1 : ¬ (j : Int) < (j : Int) := by omega
        go_wp2_with fail
        go_ret
        exact ⟨rfl, HB.out.bel⟩
      · have z1 : (j : Int) < (k : Int) := by omega
        obtain ⟨b0, off, rfl, hbl, hcell⟩ := HL.out (by omega)
        have x00 := (HB.out.bel.cell (p := ⟨b0, off + j, none⟩) hbl).trans (hcell j (by omega))
        clear hcell
        have CN : Hid (_) := fun W => next_arg m1 b1 c1 (f j) W HE1.out hbad
        go_wp2_with fail
        refine (CN.out _).mono ?_
        rintro r w5 ⟨rfl, hb⟩
        have B9 : Hid (_) := HB.out.step hb
        clear hb HB CN x00
        clear xl x0 x1 x2
        clear yl y0 y1 y2
        have xl := (B9.out.box 2 _ _ rfl).lt
        have x0 := (B9.out.box 2 _ _ rfl).cell 0 _ rfl
        have x1 := (B9.out.box 2 _ _ rfl).cell 1 _ rfl
        have x2 := (B9.out.box 2 _ _ rfl).cell 2 _ rfl
        have yl := (B9.out.box 4 _ _ rfl).lt
        have y0 := (B9.out.box 4 _ _ rfl).cell 0 _ rfl
        have y1 := (B9.out.box 4 _ _ rfl).cell 1 _ rfl
        have y2 := (B9.out.box 4 _ _ rfl).cell 2 _ rfl
        rcases hbad with e3 | e4
        · go_wp2_with fail
          go_ret
          exact ⟨rfl, (B9.out.alloc _).bel⟩
        · have e3 : ¬ f j < 1 := by omega
          go_wp2_with fail
          go_ret
          exact ⟨rfl, (B9.out.alloc _).bel⟩

theorem walk (sMode : Int) (sFailed : Bool) (sFor : Int) (eventsa : Option Addr) (eventsn eventsc : Nat) (events : Nat → Int) (w : World) (h_sMode : (Lit.int .i64 sMode).wf = true) (h_sFor : (Lit.int .i64 sFor).wf = true) (h_events : RowZ .i64 8 w eventsa eventsn eventsc events) :
    Calls Try.prog 3 #[.agg #[.int .i64 sMode, .bool sFailed, .int .i64 sFor], .slice eventsa eventsn eventsc] w fun e w' => e = .returned (.bool true) ∧ Below w.heap.size w w' := by
  rcases lE_cases sMode sFailed sFor with h | h | h
  · exact walk_bad sMode sFailed sFor 1 eventsa eventsn eventsc w h (Or.inl rfl)
  · exact walk_bad sMode sFailed sFor 4 eventsa eventsn eventsc w h (Or.inr rfl)
  · obtain ⟨q, x, h1, h2⟩ := stop_at events eventsn
    exact walk_ok sMode sFailed sFor _ eventsa eventsn eventsc q events x _ _ _ w h (by have := h_events.2.1; omega) h_events.1.2.2.2 h1 h2 rfl rfl

/-! ### THE ROW's STEP -/
set_option maxRecDepth 100000 in
theorem lifted (os : Os) (started : os.Started) (H : Type) (enc : TypeId × Value → H) :
    ReturnsInHanded {} Try.checked os 3 .any (Rows.laneSaysSpec.pre6 enc Try.prog Try.f3 Rows.laneSaysRow.domain false) (Rows.laneSaysSpec.post enc Try.prog Try.f3 false true false false) := by
  refine returnsInHanded_of_change_sized (C := Try.checked) own started (by kernel_rfl) Try.func3
    (ChangeSpec.witness6 (enc := enc) (C := Try.checked) false ⟨#[], #[.agg #[.int .i64 0, .bool false, .int .i64 0], .slice none 0 0], []⟩ 8 (by kernel_rfl) (by kernel_rfl) (by kernel_rfl) (by kernel_rfl)) ?_
  intro W base args ds gs before hval0 hW hcnd hsz0 _
  have hval : ∀ (j : Nat) t v, Try.f3.params[j]? = some t → args[j]? = some v → Value.okWide Try.prog W .any base t v := hval0
  have hW' := hW
  obtain ⟨p, q, hA0, hV, rfl, hfz, hnd⟩ := hW
  have hA : DataW.TrodAll enc Try.prog W 0 (fun _ => true) true Try.f3.params.toList args.toList ds p := hA0
  rw [Try.params3] at hA hval
  obtain ⟨v_0, vs_0, d_0, ds_0, p_0, q_0, hargs, rfl, rfl, h_0, r_0⟩ := trodAll_cons hA
  obtain ⟨v_1, vs_1, d_1, ds_1, p_1, q_1, rfl, rfl, rfl, h_1, r_1⟩ := trodAll_cons r_0
  obtain ⟨rfl, rfl, rfl⟩ := trodAll_nil r_1
  obtain rfl : args = #[v_0, v_1] := by cases args; simp_all
  obtain ⟨rfl, rfl⟩ := trodVars_none hV
  have hz_0 : Light Try.prog 23 d_0 := light_of hsz0 (j := 0) (by first | rfl | (rw [Try.params3]; rfl)) rfl
  have k_0 := h_0
  have lt_0 : ∀ x ∈ p_0, x.block < W.heap.size := by obtain ⟨m, hm⟩ := k_0; exact DataW.trod_lt m _ _ _ hm
  obtain ⟨cs_0, rfl, _⟩ := okWide_struct Try.underlying23 (hval 0 23 v_0 rfl rfl)
  obtain ⟨sMode, sFailed, sFor, e_0, h_sMode, h_sFor⟩ := (by obtain ⟨fuel, hf⟩ := h_0; exact open23 hf hz_0 : ∃ sMode : Int, ∃ sFailed : Bool, ∃ sFor : Int, cs_0.toList = [.int .i64 sMode, .bool sFailed, .int .i64 sFor] ∧ (Lit.int .i64 sMode).wf = true ∧ (Lit.int .i64 sFor).wf = true)
  obtain rfl : cs_0 = #[.int .i64 sMode, .bool sFailed, .int .i64 sFor] := by cases cs_0; simp_all
  clear e_0
  have hz_1 : Light Try.prog 24 d_1 := light_of hsz0 (j := 1) (by first | rfl | (rw [Try.params3]; rfl)) rfl
  have k_1 := h_1
  have lt_1 : ∀ x ∈ p_1, x.block < W.heap.size := by obtain ⟨m, hm⟩ := k_1; exact DataW.trod_lt m _ _ _ hm
  obtain ⟨eventsa, eventsn, eventsc, rfl⟩ := okWide_slice Try.underlying24 (hval 1 24 v_1 rfl rfl)
  obtain ⟨events, h_events⟩ : ∃ l, RowZ .i64 8 W eventsa eventsn eventsc l := by
    obtain ⟨fuel, hf⟩ := h_1
    obtain ⟨a, m, c, l, hcs, hr⟩ := rowZ_of Try.underlying24 Try.underlying3 (by kernel_rfl) (by kernel_rfl) hf hz_1
    simp [Value.cells] at hcs
    obtain ⟨rfl, rfl, rfl⟩ := hcs
    exact ⟨l, hr⟩
  clear hA0 hval0
  refine (walk sMode sFailed sFor eventsa eventsn eventsc events W h_sMode h_sFor h_events).mono fun e W' ⟨he, bel⟩ => ?_
  subst he
  exact ⟨_, rfl, _, _, _, [], _, [], hW', trodAll_mk1 (shut_bool Try.underlying4 _), (trodAll_cons_mk (Below.trod laidOut (by kernel_rfl) (of_decide_eq_true (by kernel_rfl)) k_0 bel lt_0) (trodAll_cons_mk (Below.trod laidOut (by kernel_rfl) (of_decide_eq_true (by kernel_rfl)) k_1 bel lt_1) trodAll_mk0)), rfl, bel.frame _, fun h => by cases h⟩

theorem over : Rows.laneSaysRow.holds Try.pinned (OpenSpec.ofChange Rows.laneSaysSpec) :=
  OpenClaim.holds_of_wide 3 Try.f3 rfl rfl rfl rfl rfl rfl rfl ⟨rfl, rfl, rfl, rfl, rfl⟩ rfl rfl rfl rfl rfl (by kernel_rfl) Try.func3 (by kernel_rfl)
    (of_decide_eq_true (by kernel_rfl)) (by unfold Func.isWrapper; first | (rw [if_pos (by decide +kernel)]; kernel_rfl) | (rw [if_neg (by decide +kernel)]; exact ⟨rfl, rfl⟩))
    (fun os started H enc _ => lifted os started H enc)


end Go.Proofs.Ytcdjedfookcdkaa.laneSays
namespace Go.Proofs.Ytcdjedfookcdkaa
/-- THE STATEMENT -/
theorem laneSays_holds : Rows.LaneSaysSaid := laneSays.over
#print axioms laneSays_holds
end Go.Proofs.Ytcdjedfookcdkaa
