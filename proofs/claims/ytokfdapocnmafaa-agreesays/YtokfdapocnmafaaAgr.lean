/-
  Four lanes' talk as plain data (eighty numbers); a block of memory as a function; the two lanes that are neither of two: agree.others; whether there is such a lane: agree.isLane.
-/
import Derived.Test.YtokfdapocnmafaaBoxes
import Derived.Handy
import Derived.Deep.MidRow
namespace Go.Proofs.Ytokfdapocnmafaa
open Go.RowKit
set_option linter.unusedVariables false

/-- in block b lie n values f, and they may be written over -/
structure Blk (w : World) (b n : Nat) (f : Nat → Value) : Prop where
  lt : b < w.heap.size
  cell : ∀ j, j < n → w.cell? ⟨b, j, none⟩ = some (f j)
  froz : ∀ j, j < n → w.frozen? ⟨b, j, none⟩ = false
theorem Blk.later {w w' : World} {b n K : Nat} {f : Nat → Value} (h : Blk w b n f) (hb : Below K w w') (hK : b < K) : Blk w' b n f :=
  ⟨Nat.lt_of_lt_of_le h.lt hb.size, fun j hj => (hb.cell (p := ⟨b, j, none⟩) hK).trans (h.cell j hj), fun j hj => (hb.frozen (p := ⟨b, j, none⟩) hK).trans (h.froz j hj)⟩
theorem Blk.step {w w' : World} {b n : Nat} {f : Nat → Value} (h : Blk w b n f) (hb : Below w.heap.size w w') : Blk w' b n f := h.later hb h.lt
theorem Blk.alloc {w : World} {b n : Nat} {f : Nat → Value} (h : Blk w b n f) (x : Obj) : Blk (w.alloc x) b n f := h.step ((Below.refl _ w).alloc (Nat.le_refl _) _)
theorem Blk.drew {w : World} {b n : Nat} {f : Nat → Value} (h : Blk w b n f) : Blk w.drew b n f := h.step (Below.refl _ w).drew
theorem Blk.other {w : World} {b n q j : Nat} {f : Nat → Value} (h : Blk w b n f) (hq : q ≠ b) (v : Value) : Blk (w.setCell ⟨q, j, none⟩ v) b n f :=
  ⟨by simp [World.setCell]; exact h.lt, fun i hi => by rw [World.cell?_setCell_other _ _ _ _ (by simp <;> omega)]; exact h.cell i hi, fun i hi => by rw [World.frozen?_setCell]; exact h.froz i hi⟩
theorem Blk.set {w : World} {b n j : Nat} {f : Nat → Value} (h : Blk w b n f) (hj : j < n) (v : Value) : Blk (w.setCell ⟨b, j, none⟩ v) b n (fun i => if i = j then v else f i) := by
  refine ⟨by simp [World.setCell]; exact h.lt, fun i hi => ?_, fun i hi => by rw [World.frozen?_setCell]; exact h.froz i hi⟩
  by_cases e : i = j
  · subst e
    rw [if_pos rfl]
    exact World.cell?_setCell_same _ _ _ (h.cell i hj)
  · rw [if_neg e, World.cell?_setCell_other _ _ _ _ (by simp <;> omega)]
    exact h.cell i hi
theorem Blk.as {w : World} {b n : Nat} {f g : Nat → Value} (h : Blk w b n f) (e : ∀ j, j < n → f j = g j) : Blk w b n g := ⟨h.lt, fun j hj => by rw [← e j hj]; exact h.cell j hj, h.froz⟩
theorem blk_new (w : World) (vs : Array Value) (t : TypeId) (n : Nat) (f : Nat → Value) (e : ∀ j, j < n → vs[j]? = some (f j)) : Blk (w.alloc (.cells vs t)) w.heap.size n f := by
  refine ⟨by simp, fun j hj => ?_, fun j hj => ?_⟩
  · have := e j hj
    go_simp
  · go_simp

/-- four lanes' talk: eighty numbers -/
def tk (T : Nat → Int) : Array Value := ((List.range 80).map fun j => Value.int .i32 (T j)).toArray
theorem tk_get (T : Nat → Int) {j : Nat} (h : j < 80) : (tk T)[j]? = some (.int .i32 (T j)) := by
  unfold tk
  rw [List.getElem?_toArray, List.getElem?_map, List.getElem?_range h]; rfl
theorem tk_size (T : Nat → Int) : (tk T).size = 80 := by simp [tk]
/-- a talk in block b -/
def TB (w : World) (b : Nat) (T : Nat → Int) : Prop := Blk w b 80 fun j => .int .i32 (T j)
theorem tb_new (w : World) (T : Nat → Int) (t : TypeId) : TB (w.alloc (.cells (tk T) t)) w.heap.size T := blk_new w _ _ _ _ fun j hj => tk_get T hj
theorem TB.load {w : World} {b : Nat} {T : Nat → Int} (h : TB w b T) : (Instr.loadAt 26 (.pointer (some ⟨b, 0, none⟩))).run Try.prog w = .ok (.agg (tk T)) w := by
  have := run_loadAt_mid (P := Try.prog) w b 0 26 (tk T).toList _ (fun j v hj => by
    rw [Array.getElem?_toList] at hj
    have hl : j < 80 := by
      have := (Array.getElem?_eq_some_iff.1 hj).1
      rwa [tk_size] at this
    rw [tk_get T hl] at hj
    cases hj
    rw [Nat.zero_add]
    exact h.cell j hl) Try.underlying26 rfl (by rw [Array.length_toList, tk_size]; kernel_rfl)
  simpa using this
theorem TB.cells {w : World} {b : Nat} {T : Nat → Int} (h : TB w b T) : (loadCellsFrom ⟨b, 0, none⟩ 0 80 #[]).run Try.prog w = .ok (tk T) w := by
  have := run_loadCells (P := Try.prog) w ⟨b, 0, none⟩ 80 (fun j => .int .i32 (T j)) (fun j hj => by rw [Addr.add_mid, Nat.zero_add]; exact h.cell j hj)
  exact this
/-- what lane k was told by lane i of its own number; what lane k was told by lane j of lane i's -/
def said (T : Nat → Int) (i k : Nat) : Int := T (i * 4 + k)
def told (T : Nat → Int) (i j k : Nat) : Int := T (16 + i * 16 + j * 4 + k)
theorem TB.said {w : World} {b : Nat} {T : Nat → Int} (h : TB w b T) {i k : Nat} (hi : i < 4) (hk : k < 4) : w.cell? ⟨b, i * 4 + k, none⟩ = some (.int .i32 (said T i k)) := h.cell _ (by omega)
theorem TB.told {w : World} {b : Nat} {T : Nat → Int} (h : TB w b T) {i j k : Nat} (hi : i < 4) (hj : j < 4) (hk : k < 4) : w.cell? ⟨b, 16 + i * 16 + j * 4 + k, none⟩ = some (.int .i32 (told T i j k)) := h.cell _ (by omega)

/-- the first and the second lane that is neither i nor k -/
def oth1 (i k : Nat) : Nat := if 0 ≠ i ∧ 0 ≠ k then 0 else if 1 ≠ i ∧ 1 ≠ k then 1 else 2
def oth2 (i k : Nat) : Nat := if 3 ≠ i ∧ 3 ≠ k then 3 else if 2 ≠ i ∧ 2 ≠ k then 2 else 1
theorem four {i : Nat} (h : i < 4) : i = 0 ∨ i = 1 ∨ i = 2 ∨ i = 3 := by omega
theorem oth_lt (i k : Nat) : oth1 i k < 4 ∧ oth2 i k < 4 := by
  unfold oth1 oth2
  constructor <;> (repeat' split) <;> omega

set_option maxHeartbeats 4000000 in
theorem others_any (i k : Nat) (hi : i < 4) (hk : k < 4) (h : i ≠ k) (w : World) : Calls Try.prog 18 #[.int .i64 i, .int .i64 k] w fun e w' => e = .returned (.agg #[.int .i64 (oth1 i k : Nat), .int .i64 (oth2 i k : Nat)]) ∧ Below w.heap.size w w' := by
  obtain rfl | rfl | rfl | rfl := four hi <;> obtain rfl | rfl | rfl | rfl := four hk <;>
    first
    | exact absurd rfl h
    | (clear h hi hk
       show Calls Try.prog 18 #[.int .i64 _, .int .i64 _] w fun e w' => e = .returned (.agg #[.int .i64 _, .int .i64 _]) ∧ Below w.heap.size w w'
       go_enter Try.func18, Try.ntmps18
       go_wp2_with fail
       go_rounds 5
       go_returns
       exact ⟨rfl, by go_grown⟩)

set_option maxHeartbeats 400000 in
theorem isLane_yes (k : Nat) (hk : k < 4) (w : World) : Calls Try.prog 13 #[.int .i64 k] w fun e w' => e = .returned (.bool true) ∧ w' = w := by
  have z0 : (k : Int) < 4 := by omega
  have z1 : (0 : Int) ≤ (k : Int) := by omega
  go_enter Try.func13, Try.ntmps13
  go_wp2_with fail
  go_ret
  exact ⟨rfl, rfl⟩

set_option maxHeartbeats 400000 in
theorem isLane_no (k : Int) (hk : k < 0 ∨ 4 ≤ k) (w : World) : Calls Try.prog 13 #[.int .i64 k] w fun e w' => e = .returned (.bool false) ∧ w' = w := by
  rcases hk with z | z
  · have z1 : ¬ (0 : Int) ≤ k := by omega
    go_enter Try.func13, Try.ntmps13
    go_wp2_with fail
    go_ret
    exact ⟨rfl, rfl⟩
  · have z1 : (0 : Int) ≤ k := by omega
    have z2 : ¬ k < 4 := by omega
    go_enter Try.func13, Try.ntmps13
    go_wp2_with fail
    go_ret
    exact ⟨rfl, rfl⟩

end Go.Proofs.Ytokfdapocnmafaa
