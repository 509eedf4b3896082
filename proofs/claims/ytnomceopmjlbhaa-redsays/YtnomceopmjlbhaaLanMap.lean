/-
  The map of package lane that says what comes of a cause: how its keys and its elements read, what it holds, what a look-up in it tells.
-/
import Derived.Test.YtnomceopmjlbhaaMapBatch
import Derived.DeepKeys4
namespace Go.Proofs.Ytnomceopmjlbhaa
open Go Go.RowKit
set_option linter.unusedVariables false

theorem lanLaw : Maps.Keyed Try.prog 60 := Maps.Keyed.of_law (deep_law_laid (by kernel_rfl : laidOutB Try.prog = true) (m := 3) (by omega) (of_decide_eq_true (by kernel_rfl)) (by kernel_rfl) (by kernel_rfl))
theorem lanZero (w : World) : (zeroValue 23).run Try.prog w = .ok (.agg #[.int .i64 0, .bool false, .int .i64 0]) w := by kernel_rfl

/-- a cause as a value, and what it reads as -/
def cav (x : Int × Bool × Int) : Value := .agg #[.int .i64 x.1, .bool x.2.1, .int .i64 0, .int .i64 x.2.2]
noncomputable def kL (x : Int × Bool × Int) : Lit := (keyOf Try.prog 60 (cav x)).getD (.bool false)
theorem cav_inj {x y : Int × Bool × Int} (h : cav x = cav y) : x = y := by
  obtain ⟨a, b, c⟩ := x
  obtain ⟨p, q, r⟩ := y
  simp only [cav, Value.agg.injEq, Array.mk.injEq, List.cons.injEq, Value.int.injEq, Value.bool.injEq, true_and, and_true] at h
  obtain ⟨rfl, rfl, rfl⟩ := h
  rfl
/-- how a state reads -/
def RL (v : Value) : Option (DataW Unit × List MemPlace) :=
  match v with
  | .agg cs => (match cs.toList with
    | [.int .i64 m, .bool b, .int .i64 n] => some (.agg [.lit (.int .i64 m), .lit (.bool b), .lit (.int .i64 n)], [])
    | _ => none)
  | _ => none
def dL (m : Int) (b : Bool) (n : Int) : DataW Unit := .agg [.lit (.int .i64 m), .lit (.bool b), .lit (.int .i64 n)]
theorem RL_mk (m : Int) (b : Bool) (n : Int) : RL (.agg #[.int .i64 m, .bool b, .int .i64 n]) = some (dL m b n, []) := rfl
theorem RL_inv {v : Value} {m : Int} {b : Bool} {n : Int} {ps : List MemPlace} (h : RL v = some (dL m b n, ps)) : v = .agg #[.int .i64 m, .bool b, .int .i64 n] := by
  unfold RL at h
  split at h
  · rename_i cs
    obtain ⟨l⟩ := cs
    split at h
    · rename_i e
      simp only at e
      subst e
      simp only [dL, Option.some.injEq, Prod.mk.injEq, DataW.agg.injEq, List.cons.injEq, DataW.lit.injEq, Lit.int.injEq, Lit.bool.injEq, true_and, and_true] at h
      obtain ⟨⟨rfl, rfl, rfl⟩, _⟩ := h
      rfl
    · cases h
  · cases h

/-- the states that are right, with each event -/
def combos : List (Int × Bool × Int) :=
  ([(0, false), (1, false), (2, true), (3, false), (3, true)] : List (Int × Bool)).flatMap fun s => ([1, 2, 3, 4, 5, 6, 7] : List Int).map fun e => (s.1, s.2, e)
/-- the entries: the operation that puts it in, its cause, what comes of it -/
def ents : List (Nat × (Int × Bool × Int) × (Int × Bool)) :=
  [(4, (0, false, 1), (1, false)), (8, (1, false, 2), (0, false)), (12, (0, false, 3), (2, true)), (16, (1, false, 3), (2, true)), (20, (3, false, 3), (3, true)), (24, (1, false, 4), (0, false)), (28, (0, false, 5), (3, false)),
   (32, (1, false, 5), (3, false)), (36, (2, true, 5), (3, true)), (40, (3, false, 6), (0, false)), (44, (3, true, 6), (2, true)), (48, (2, true, 7), (0, false)), (52, (3, false, 7), (0, false)), (56, (3, true, 7), (0, false))]
def entL : List Nat := [4, 8, 12, 16, 20, 24, 28, 32, 36, 40, 44, 48, 52, 56]
def keyAt (i : Nat) : Int × Bool × Int := ((ents.find? fun e => e.1 == i).map fun e => e.2.1).getD (0, false, 1)
def resAt (i : Nat) : Int × Bool := ((ents.find? fun e => e.1 == i).map fun e => e.2.2).getD (0, false)
noncomputable def klI (i : Nat) : Lit := kL (keyAt i)
def dI (i : Nat) : DataW Unit := dL (resAt i).1 (resAt i).2 0
/-- what comes of a cause, where the state turns -/
def chg (x : Int × Bool × Int) : Option (Int × Bool) := (entL.find? fun i => keyAt i == x).map resAt

theorem key_some {x : Int × Bool × Int} (h : x ∈ combos) : keyOf Try.prog 60 (cav x) = some (kL x) := by
  have h1 : combos.all (fun x => (keyOf Try.prog 60 (cav x)).isSome) = true := by kernel_rfl
  have h2 := List.all_eq_true.1 h1 x h
  unfold kL
  cases hk : keyOf Try.prog 60 (cav x) with
  | none => rw [hk] at h2; cases h2
  | some l => rfl
theorem kL_inj {x y : Int × Bool × Int} (hx : x ∈ combos) (hy : y ∈ combos) (h : kL x = kL y) : x = y := cav_inj (lanLaw.inj (key_some hx) (h ▸ key_some hy))
theorem keyAt_in {i : Nat} (h : i ∈ entL) : keyAt i ∈ combos := by
  have h1 : entL.all (fun i => combos.contains (keyAt i)) = true := by decide
  exact List.contains_iff_mem.1 (List.all_eq_true.1 h1 i h)
theorem klI_apart : ∀ i ∈ entL, ∀ j ∈ entL, i ≠ j → klI i ≠ klI j := fun i hi j hj hne e => by
  have h1 : entL.all (fun i => entL.all fun j => i == j || !(keyAt i == keyAt j)) = true := by decide
  have h2 := List.all_eq_true.1 (List.all_eq_true.1 h1 i hi) j hj
  rw [kL_inj (keyAt_in hi) (keyAt_in hj) e] at h2
  simp at h2
  exact hne h2

/-- what the map holds -/
def Tb (D : DataW Unit) : Prop := ∀ x ∈ combos, (∀ y, chg x = some y → Maps.has D (kL x) = true ∧ ∀ z, D.atKey (kL x) z = dL y.1 y.2 0) ∧ (chg x = none → Maps.has D (kL x) = false)
theorem tb_of {D' : DataW Unit} (h1 : ∀ i ∈ entL, Maps.has D' (klI i) = true ∧ ∀ z, D'.atKey (klI i) z = dI i) (h2 : ∀ q, (∀ i ∈ entL, q ≠ klI i) → Maps.has D' q = false) : Tb D' := by
  intro x hx
  unfold chg
  cases hf : entL.find? fun i => keyAt i == x with
  | none =>
    refine ⟨fun y hy => (by cases hy), fun _ => h2 _ fun i hi e => ?_⟩
    have h3 := List.find?_eq_none.1 hf i hi
    rw [kL_inj hx (keyAt_in hi) e] at h3
    simp at h3
  | some i =>
    have h3 := List.find?_some hf
    have h4 : keyAt i = x := by simpa using h3
    have h5 := h1 i (List.mem_of_find?_eq_some hf)
    unfold klI dI at h5
    rw [h4] at h5
    refine ⟨fun y hy => ?_, fun z => (by cases z)⟩
    simp only [Option.map_some, Option.some.injEq] at hy
    subst hy
    exact h5

theorem look_yes {D : DataW Unit} (h : Tb D) {x : Int × Bool × Int} (hx : x ∈ combos) {y : Int × Bool} (hy : chg x = some y) {B c : Nat} (W : World) (hown : W.ownsMap Try.prog 60 RL B c D) :
    (Instr.lookup 56 (.map (some B)) (cav x) true).run Try.prog W = .ok (.tuple #[.agg #[.int .i64 y.1, .bool y.2, .int .i64 0], .bool true]) W := by
  obtain ⟨v, ps, hrun, hv⟩ := hown.look_ok lanLaw Try.underlying56 (lanZero W) (RL_mk 0 false 0) (key_some hx)
  obtain ⟨h1, h2⟩ := (h x hx).1 y hy
  rw [h2] at hv
  rw [hrun, h1, RL_inv hv]

theorem look_no {D : DataW Unit} (h : Tb D) {x : Int × Bool × Int} (hx : x ∈ combos) (hy : chg x = none) {B c : Nat} (W : World) (hown : W.ownsMap Try.prog 60 RL B c D) :
    (Instr.lookup 56 (.map (some B)) (cav x) true).run Try.prog W = .ok (.tuple #[.agg #[.int .i64 0, .bool false, .int .i64 0], .bool false]) W := by
  obtain ⟨v, ps, hrun, hv⟩ := hown.look_ok lanLaw Try.underlying56 (lanZero W) (RL_mk 0 false 0) (key_some hx)
  have h1 := (h x hx).2 hy
  rw [Maps.atKey_of_not_has h1] at hv
  rw [hrun, h1, RL_inv hv]

/-- 'v, ok := m[k]' where what it tells is known -/
theorem wpList_lookup_run {P : Program} (w : World) {ops : Array Oper} {rest : List Oper} {o : Oper} {a : Act} {Q : Exit → Act → World → Prop} (hg : o.guard = none) (m x : Operand) (t : TypeId) (hop : o.op = Op.lookup t m x true) (mv key : Value)
    (hm : a.eval m = mv) (hx : a.eval x = key) (v : Value) (hrun : (Instr.lookup t mv key true).run P w = .ok v w) (hK : wpList P ops Q rest (a.put o.dst v) w) : wpList P ops Q (o :: rest) a w := by
  refine wpList_plain hg fun K' hK' => ?_
  unfold Oper.wp
  simp [execOp, hop, hm, hx, hrun, Result.andThen]
  exact hK' _ _ hK

end Go.Proofs.Ytnomceopmjlbhaa
