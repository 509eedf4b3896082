/-
  Contract of cuts.Dual: a new row of gates, each the dual of the one at its place.
-/
import Derived.Test.YtacophekhknbpaaGatDul
import Derived.Test.YtacophekhknbpaaGatChk
import Derived.Laws.MakeOwn
namespace Go.Proofs.Ytacophekhknbpaa
open Go.RowKit
set_option linter.unusedVariables false

/-- d is the dual of g -/
structure DualOf (g d : Gt) : Prop where
  k : d.k = dK g.k
  v : d.v = dV g.k g.v g.n
  n : d.n = g.n
  of : d.of = g.of

theorem dualGate_any (g : Gt) (m : Nat) (w : World) (hg : geE g m = 0) (h : RI w g.a g.n g.of) :
    Calls Try.prog 40 #[.agg #[.int .i64 g.k, .int .i64 g.v, .slice g.a g.n g.c]] w fun e w' => ∃ d : Gt, e = .returned (.agg #[.int .i64 d.k, .int .i64 d.v, .slice d.a d.n d.c]) ∧ DualOf g d ∧ RIN w.heap.size w' d.a d.n d.of ∧ Below w.heap.size w w' := by
  obtain ⟨h1, h2, h3⟩ := geE_zero hg
  have hk : g.k = 1 ∧ dK g.k = 1 ∧ dV g.k g.v g.n = g.v ∨ g.k = 2 ∧ dK g.k = 3 ∧ dV g.k g.v g.n = g.v ∨ g.k = 3 ∧ dK g.k = 2 ∧ dV g.k g.v g.n = g.v ∨ g.k = 4 ∧ dK g.k = 4 ∧ dV g.k g.v g.n = (g.n : Int) + 1 - g.v ∧ 0 ≤ g.v ∧ g.v ≤ (g.n : Int) + 1 := by
    unfold dK dV
    rcases formV_kinds h1 with ⟨q, a, b, _⟩ | ⟨q, _⟩ | ⟨q, _⟩ | ⟨q, a, b⟩ <;> rw [q] <;> simp <;> omega
  rcases Nat.eq_zero_or_pos g.n with q | q
  · refine (dualGate_none g.k g.v (dK g.k) (dV g.k g.v g.n) g.a g.n g.c w q hk).mono ?_
    rintro e w' ⟨rfl, hb⟩
    refine ⟨⟨dK g.k, dV g.k g.v g.n, none, g.n, 0, g.of⟩, ?_, ⟨rfl, rfl, rfl, rfl⟩, fun hn => absurd hn (by simp only []; omega), hb⟩
    rw [q]
  · obtain ⟨b, o, ha, _⟩ := h q
    rw [ha] at h ⊢
    refine (dualGate_some g.k g.v (dK g.k) (dV g.k g.v g.n) b o g.n g.c g.of w q h2 h hk).mono ?_
    rintro e w' ⟨a', c', rfl, hr, hb⟩
    exact ⟨⟨dK g.k, dV g.k g.v g.n, a', g.n, c', g.of⟩, rfl, ⟨rfl, rfl, rfl, rfl⟩, hr, hb⟩

/-- room for n gates in a block; the first q lie there -/
structure BlG (w : World) (b n q : Nat) (u : Nat → Gt) : Prop where
  lt : b < w.heap.size
  cell : ∀ j, j < q → GAt w b (j * 3) (u j)
  there : ∀ i, i < n * 3 → ∃ x, w.cell? ⟨b, i, none⟩ = some x
  froz : ∀ i, i < n * 3 → w.frozen? ⟨b, i, none⟩ = false
theorem BlG.step {w w' : World} {b n q : Nat} {u : Nat → Gt} (h : BlG w b n q u) (hb : Below w.heap.size w w') : BlG w' b n q u :=
  ⟨Nat.lt_of_lt_of_le h.lt hb.size, fun j hj => (h.cell j hj).step hb h.lt, fun i hi => by
    obtain ⟨x, hx⟩ := h.there i hi
    exact ⟨x, (hb.cell (p := ⟨b, i, none⟩) h.lt).trans hx⟩, fun i hi => (hb.frozen (p := ⟨b, i, none⟩) h.lt).trans (h.froz i hi)⟩
theorem BlG.set {w : World} {b n q : Nat} {u : Nat → Gt} (h : BlG w b n q u) (hq : q < n) (g : Gt) :
    BlG (((w.setCell ⟨b, q * 3, none⟩ (.int .i64 g.k)).setCell ⟨b, q * 3 + 1, none⟩ (.int .i64 g.v)).setCell ⟨b, q * 3 + 2, none⟩ (.slice g.a g.n g.c)) b n (q + 1) (fun j => if j = q then g else u j) := by
  obtain ⟨x0, h0⟩ := h.there (q * 3) (by omega)
  obtain ⟨x1, h1⟩ := h.there (q * 3 + 1) (by omega)
  obtain ⟨x2, h2⟩ := h.there (q * 3 + 2) (by omega)
  have far : ∀ i, i ≠ q * 3 → i ≠ q * 3 + 1 → i ≠ q * 3 + 2 → (((w.setCell ⟨b, q * 3, none⟩ (.int .i64 g.k)).setCell ⟨b, q * 3 + 1, none⟩ (.int .i64 g.v)).setCell ⟨b, q * 3 + 2, none⟩ (.slice g.a g.n g.c)).cell? ⟨b, i, none⟩ = w.cell? ⟨b, i, none⟩ := fun i e0 e1 e2 => by
    rw [World.cell?_setCell_other _ _ _ _ (by simp <;> omega), World.cell?_setCell_other _ _ _ _ (by simp <;> omega), World.cell?_setCell_other _ _ _ _ (by simp <;> omega)]
  have c0 : (((w.setCell ⟨b, q * 3, none⟩ (.int .i64 g.k)).setCell ⟨b, q * 3 + 1, none⟩ (.int .i64 g.v)).setCell ⟨b, q * 3 + 2, none⟩ (.slice g.a g.n g.c)).cell? ⟨b, q * 3, none⟩ = some (.int .i64 g.k) := by
    rw [World.cell?_setCell_other _ _ _ _ (by simp), World.cell?_setCell_other _ _ _ _ (by simp)]
    exact World.cell?_setCell_same _ _ _ h0
  have c1 : (((w.setCell ⟨b, q * 3, none⟩ (.int .i64 g.k)).setCell ⟨b, q * 3 + 1, none⟩ (.int .i64 g.v)).setCell ⟨b, q * 3 + 2, none⟩ (.slice g.a g.n g.c)).cell? ⟨b, q * 3 + 1, none⟩ = some (.int .i64 g.v) := by
    rw [World.cell?_setCell_other _ _ _ _ (by simp)]
    exact World.cell?_setCell_same _ _ _ ((World.cell?_setCell_other _ _ _ _ (by simp)).trans h1)
  have c2 : (((w.setCell ⟨b, q * 3, none⟩ (.int .i64 g.k)).setCell ⟨b, q * 3 + 1, none⟩ (.int .i64 g.v)).setCell ⟨b, q * 3 + 2, none⟩ (.slice g.a g.n g.c)).cell? ⟨b, q * 3 + 2, none⟩ = some (.slice g.a g.n g.c) :=
    World.cell?_setCell_same _ _ _ (((World.cell?_setCell_other _ _ _ _ (by simp)).trans (World.cell?_setCell_other _ _ _ _ (by simp))).trans h2)
  refine ⟨by simp [World.setCell]; exact h.lt, fun j hj => ?_, fun i hi => ?_, fun i hi => by rw [World.frozen?_setCell, World.frozen?_setCell, World.frozen?_setCell]; exact h.froz i hi⟩
  · show GAt _ b (j * 3) (if j = q then g else u j)
    by_cases e : j = q
    · subst e
      rw [if_pos rfl]
      exact ⟨c0, c1, c2⟩
    · rw [if_neg e]
      obtain ⟨a0, a1, a2⟩ := h.cell j (by omega)
      exact ⟨(far _ (by omega) (by omega) (by omega)).trans a0, (far _ (by omega) (by omega) (by omega)).trans a1, (far _ (by omega) (by omega) (by omega)).trans a2⟩
  · by_cases e0 : i = q * 3
    · exact ⟨.int .i64 g.k, by rw [e0]; exact c0⟩
    · by_cases e1 : i = q * 3 + 1
      · exact ⟨.int .i64 g.v, by rw [e1]; exact c1⟩
      · by_cases e2 : i = q * 3 + 2
        · exact ⟨.slice g.a g.n g.c, by rw [e2]; exact c2⟩
        · obtain ⟨x, hx⟩ := h.there i hi
          exact ⟨x, (far i e0 e1 e2).trans hx⟩
theorem RIN.far {N : Nat} {W : World} {a : Option Addr} {n : Nat} {f : Nat → Int} (h : RIN N W a n f) {d : Nat} (hd : d < N) (j : Nat) (v : Value) : RIN N (W.setCell ⟨d, j, none⟩ v) a n f := fun hn => by
  obtain ⟨b, e, h1, h2, h3⟩ := h hn
  exact ⟨b, e, h1, by simp [World.setCell]; exact h2, fun i hi => by rw [World.cell?_setCell_other _ _ _ _ (by simp <;> omega)]; exact h3 i hi⟩

/-- the first q gates are duals, their rows in memory behind the N-th block -/
structure Duo (N : Nat) (w : World) (t u : Nat → Gt) (q : Nat) : Prop where
  dual : ∀ j, j < q → DualOf (t j) (u j)
  row : ∀ j, j < q → RIN N w (u j).a (u j).n (u j).of
theorem Duo.step {N : Nat} {w w' : World} {t u : Nat → Gt} {q : Nat} (h : Duo N w t u q) (hb : Below w.heap.size w w') : Duo N w' t u q := ⟨h.dual, fun j hj => (h.row j hj).step hb⟩
theorem Duo.far {N : Nat} {w : World} {t u : Nat → Gt} {q : Nat} (h : Duo N w t u q) {d : Nat} (hd : d < N) (j : Nat) (v : Value) : Duo N (w.setCell ⟨d, j, none⟩ v) t u q := ⟨h.dual, fun i hi => (h.row i hi).far hd j v⟩
theorem Duo.next {N : Nat} {w : World} {t u : Nat → Gt} {q : Nat} (h : Duo N w t u q) (g : Gt) (hg : DualOf (t q) g) (hr : RIN N w g.a g.n g.of) : Duo N w t (fun j => if j = q then g else u j) (q + 1) := by
  refine ⟨fun j hj => ?_, fun j hj => ?_⟩
  · show DualOf (t j) (if j = q then g else u j)
    by_cases e : j = q
    · subst e
      rw [if_pos rfl]
      exact hg
    · rw [if_neg e]
      exact h.dual j (by omega)
  · show RIN N w (if j = q then g else u j).a (if j = q then g else u j).n (if j = q then g else u j).of
    by_cases e : j = q
    · rw [if_pos e]
      exact hr
    · rw [if_neg e]
      exact h.row j (by omega)
/-- what Dual tells of a right tree: a new row of the duals -/
structure RowD (N : Nat) (w : World) (b n : Nat) (t u : Nat → Gt) : Prop where
  new : N ≤ b
  lt : b < w.heap.size
  cell : ∀ j, j < n → GAt w b (j * 3) (u j)
  duo : Duo N w t u n
theorem RowD.step {N : Nat} {w w' : World} {b n : Nat} {t u : Nat → Gt} (h : RowD N w b n t u) (hb : Below w.heap.size w w') : RowD N w' b n t u := ⟨h.new, Nat.lt_of_lt_of_le h.lt hb.size, fun j hj => (h.cell j hj).step hb h.lt, h.duo.step hb⟩
theorem RowD.rowG {N : Nat} {w : World} {b n : Nat} {t u : Nat → Gt} (h : RowD N w b n t u) (hc : chG t n = 0) : RowG w (some ⟨b, 0, none⟩) n u := by
  obtain ⟨n1, n2, h3⟩ := chG_zero hc
  refine ⟨fun _ => ⟨b, 0, rfl, h.lt, fun j hj => by rw [Nat.zero_add]; exact h.cell j hj⟩, fun j hj => (h.duo.row j hj).ri, fun j hj => ?_⟩
  obtain ⟨h4, h5, h6⟩ := geE_zero (h3 j hj)
  have d := h.duo.dual j hj
  have e1 := d.n
  have e2 := d.v
  have e3 : -1 ≤ dV (t j).k (t j).v (t j).n ∧ dV (t j).k (t j).v (t j).n ≤ 100 := by
    unfold dV
    rcases formV_kinds h4 with ⟨q, a, b, _⟩ | ⟨q, a⟩ | ⟨q, a⟩ | ⟨q, a, b⟩ <;> rw [q] <;> simp <;> omega
  exact ⟨by rw [e1]; omega, by rw [e2]; omega, by rw [e2]; omega⟩

theorem dual_bad (a : Option Addr) (n c : Nat) (t : Nat → Gt) (w : World) (h : RowG w a n t) (E : Int) (hE : chG t n = E) (h0 : ¬ E = 0) :
    Calls Try.prog 11 #[.slice a n c] w fun e w' => e = .returned (.tuple #[.slice none 0 0, .int .i64 E]) ∧ Below w.heap.size w w' := by
  have C : Hid (∀ W, Below w.heap.size w W → Calls Try.prog 19 #[.slice a n c] W fun e w' => e = .returned (.int .i64 E) ∧ Below W.heap.size W w') := fun W hW => hE ▸ checkT_any a n c t W (h.step hW)
  have z : (E != 0) = true := by simpa using h0
  clear h hE
  go_enter Try.func11, Try.ntmps11
  go_wp2_with fail
  refine (C.out _ (Below.refl _ _)).mono ?_
  rintro e w1 ⟨rfl, hb⟩
  have B1 : Hid (Below w.heap.size w w1) := hb
  clear hb
  go_wp2_with fail
  go_returns
  exact ⟨rfl, B1.out⟩

theorem infoGate : ∃ i, Try.prog.info? 41 = some i ∧ i.zero = some (.agg #[.int .i64 0, .int .i64 0, .slice none 0 0]) ∧ i.size = 3 ∧ i.bytes = 40 := by
  have h : (Try.prog.info? 41).map (fun i => (i.zero, i.size, i.bytes)) = some (some (.agg #[.int .i64 0, .int .i64 0, .slice none 0 0]), 3, 40) := by kernel_rfl
  cases hi : Try.prog.info? 41 with
  | none => rw [hi] at h; simp at h
  | some i => rw [hi] at h; simp at h; exact ⟨i, rfl, h.1, h.2.1, h.2.2⟩
theorem blG_new (w : World) (n : Nat) (Z : Array Value) (hZ : Z.size = n * 3) (ty : TypeId) (u : Nat → Gt) : BlG (w.alloc (.cells Z ty)) w.heap.size n 0 u := by
  have h := cells_new w Z ty
  refine ⟨h.lt, fun j hj => absurd hj (by omega), fun i hi => ⟨Z[i], h.cell i _ (by rw [Array.getElem?_toList, Array.getElem?_eq_getElem (by omega)])⟩, fun i hi => h.froz i Z[i] (by rw [Array.getElem?_toList, Array.getElem?_eq_getElem (by omega)])⟩

set_option maxHeartbeats 4000000 in
set_option maxRecDepth 100000 in
theorem dual_ok (a : Option Addr) (n c : Nat) (t : Nat → Gt) (w : World) (h : RowG w a n t) (hE : chG t n = 0) :
    Calls Try.prog 11 #[.slice a n c] w fun e w' => ∃ b u, e = .returned (.tuple #[.slice (some ⟨b, 0, none⟩) n n, .int .i64 0]) ∧ RowD w.heap.size w' b n t u ∧ Below w.heap.size w w' := by
  have C : Hid (∀ W, Below w.heap.size w W → Calls Try.prog 19 #[.slice a n c] W fun e w' => e = .returned (.int .i64 0) ∧ Below W.heap.size W w') := fun W hW => hE ▸ checkT_any a n c t W (h.step hW)
  have HR : Hid (RowG w a n t) := h
  have HG : Hid (∀ k, k < n → geE (t k) k = 0) := (chG_zero hE).2.2
  have HN : Hid (1 ≤ n ∧ n ≤ 30) := ⟨(chG_zero hE).1, (chG_zero hE).2.1⟩
  have zN : (n : Int) ≤ 30 := by have := HN.out; omega
  obtain ⟨i, i1, i2, i3, i4⟩ := infoGate
  obtain ⟨Z, hZ, hmk⟩ : ∃ Z : Array Value, Z.size = n * 3 ∧ ∀ W : World, (Instr.makeSlice 22 (.int .i64 (n : Int)) (.int .i64 (n : Int))).run Try.prog W = .ok (.slice (some ⟨W.heap.size, 0, none⟩) n n) (W.alloc (.cells Z 41)) := by
    refine ⟨madeCells (Value.agg #[.int .i64 0, .int .i64 0, .slice none 0 0]).cells (n * 3), size_madeCells _ _, fun W => ?_⟩
    have := run_make (P := Try.prog) W 22 41 i _ Try.underlying22 i1 i2 .i64 .i64 (n : Int) (n : Int) (by omega) (by omega) (by rw [i4]; omega) (by omega)
    rw [i3, show ((n : Int)).toNat = n by omega] at this
    exact this
  have hHZ : Hid (Z.size = n * 3) := hZ
  clear h hE hZ i1 i2 i3 i4
  go_enter Try.func11, Try.ntmps11
  go_wp2_with fail
  refine (C.out _ (Below.refl _ _)).mono ?_
  rintro e w1 ⟨rfl, hb⟩
  have B1 : Hid (Below w.heap.size w w1) := hb
  clear hb C
  go_wp2_with fail
  go_loopg [18] (n + 1) (fun g s wr => ∃ (q : Nat) (u : Nat → Gt), s = .int .i64 q ∧ n - q < g ∧ q ≤ n ∧ Hid (BlG wr w1.heap.size n q u) ∧ Hid (Duo (w1.heap.size + 1) wr t u q) ∧ Hid (Below w.heap.size w wr))
  case atStart => exact ⟨0, t, rfl, by omega, by omega, blG_new w1 n Z hHZ.out _ _, ⟨fun j hj => absurd hj (by omega), fun j hj => absurd hj (by omega)⟩, B1.out.alloc B1.out.size _⟩
  case round =>
    obtain ⟨q, u, rfl, hg, hq, HL, HD, HB⟩ := hrel
    by_cases hlt : q < n
    · have y1 : (q : Int) < (n : Int) := by omega
      have HQ : Hid (RowG wr a n t) := HR.out.step HB.out
      obtain ⟨b, o, rfl, hb, hc⟩ := HQ.out.row (by omega)
      obtain ⟨x0, x1, x2⟩ := hc q hlt
      have y3 : (q : Int) < 30 := by omega
      have BX : Hid (Below w.heap.size w (wr.alloc (.cells #[.int .i64 (t q).k, .int .i64 (t q).v, .slice (t q).a (t q).n (t q).c] 41))) := HB.out.alloc HB.out.size _
      have LX : Hid (BlG (wr.alloc (.cells #[.int .i64 (t q).k, .int .i64 (t q).v, .slice (t q).a (t q).n (t q).c] 41)) w1.heap.size n q u) := HL.out.step (gbox _ _)
      have DX : Hid (Duo (w1.heap.size + 1) (wr.alloc (.cells #[.int .i64 (t q).k, .int .i64 (t q).v, .slice (t q).a (t q).n (t q).c] 41)) t u q) := HD.out.step (gbox _ _)
      have C : Hid (Calls Try.prog 40 #[.agg #[.int .i64 (t q).k, .int .i64 (t q).v, .slice (t q).a (t q).n (t q).c]] (wr.alloc (.cells #[.int .i64 (t q).k, .int .i64 (t q).v, .slice (t q).a (t q).n (t q).c] 41)) fun e w' => ∃ d : Gt, e = .returned (.agg #[.int .i64 d.k, .int .i64 d.v, .slice d.a d.n d.c]) ∧ DualOf (t q) d ∧ RIN (wr.alloc (.cells #[.int .i64 (t q).k, .int .i64 (t q).v, .slice (t q).a (t q).n (t q).c] 41)).heap.size w' d.a d.n d.of ∧ Below (wr.alloc (.cells #[.int .i64 (t q).k, .int .i64 (t q).v, .slice (t q).a (t q).n (t q).c] 41)).heap.size (wr.alloc (.cells #[.int .i64 (t q).k, .int .i64 (t q).v, .slice (t q).a (t q).n (t q).c] 41)) w') :=
        dualGate_any (t q) q _ (HG.out q hlt) ((HQ.out.of q hlt).step (gbox _ _))
      clear hc
      go_wp2_with fail
      refine C.out.mono ?_
      rintro e w2 ⟨d, rfl, hd, hr, hb2⟩
      have L2 : Hid (BlG w2 w1.heap.size n q u) := LX.out.step hb2
      have D2 : Hid (Duo (w1.heap.size + 1) w2 t u q) := DX.out.step hb2
      have B2 : Hid (Below w.heap.size w w2) := BX.out.trans (hb2.mono BX.out.size)
      have R2 : Hid (RIN (w1.heap.size + 1) w2 d.a d.n d.of) := hr.mono (by have := HL.out.lt; simp; omega)
      have G2 : Hid (DualOf (t q) d) := hd
      obtain ⟨c0, r0⟩ := L2.out.there (q * 3) (by omega)
      obtain ⟨c1, r1⟩ := L2.out.there (q * 3 + 1) (by omega)
      obtain ⟨c2, r2⟩ := L2.out.there (q * 3 + 2) (by omega)
      have s0 := L2.out.froz (q * 3) (by omega)
      have s1 := L2.out.froz (q * 3 + 1) (by omega)
      have s2 := L2.out.froz (q * 3 + 2) (by omega)
      have l2 := L2.out.lt
      obtain ⟨dk, dv, da, dn, dc, df⟩ := d
      clear hb2 hr hd C BX LX DX x0 x1 x2
      go_wp2_with fail
      have L3 : Hid (_) := L2.out.set hlt ⟨dk, dv, da, dn, dc, df⟩
      have D3 : Hid (_) := ((D2.out.next _ G2.out R2.out).far (Nat.lt_succ_self _) (q * 3) (.int .i64 dk)).far (Nat.lt_succ_self _) (q * 3 + 1) (.int .i64 dv) |>.far (Nat.lt_succ_self _) (q * 3 + 2) (.slice da dn dc)
      have B3 : Hid (_) := ((B2.out.setCell (p := ⟨w1.heap.size, q * 3, none⟩) B1.out.size (.int .i64 dk)).setCell (p := ⟨w1.heap.size, q * 3 + 1, none⟩) B1.out.size (.int .i64 dv)).setCell (p := ⟨w1.heap.size, q * 3 + 2, none⟩) B1.out.size (.slice da dn dc)
      go_roundg (n - (q + 1) + 1)
      case measure => omega
      case rel => exact ⟨q + 1, _, by go_num, by omega, by omega, L3.out, D3.out, B3.out⟩
    · have y1 : ¬ (q : Int) < (n : Int) := by omega
      obtain rfl : q = n := by omega
      go_wp2_with fail
      go_returns
      exact ⟨w1.heap.size, rfl, ⟨u, ⟨B1.out.size, HL.out.lt, HL.out.cell, ⟨HD.out.dual, fun j hj => (HD.out.row j hj).mono (by have := B1.out.size; omega)⟩⟩⟩, HB.out⟩

end Go.Proofs.Ytacophekhknbpaa
