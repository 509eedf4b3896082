/-
  Rows of sets: one of one's own that grows by append, one that came in, one that a call tells.
-/
import Derived.Test.YtacophekhknbpaaBxs
import Derived.Test.YtacophekhknbpaaSetPlain
import Derived.Laws.AppendOwn
import Derived.Deep.AppendLies
namespace Go.Proofs.Ytacophekhknbpaa
open Go.RowKit
set_option linter.unusedVariables false

def numsU (l : List Nat) : List Value := l.map fun x => .int .u16 (x : Nat)
theorem numsU_one {l : List Nat} {v : Value} (h : v ∈ numsU l) : v.oneCell' = true := by
  unfold numsU at h
  obtain ⟨x, _, rfl⟩ := List.mem_map.1 h
  rfl
theorem infoU16 : ∃ i, Try.prog.info? 23 = some i ∧ i.zero = some (.int .u16 0) ∧ i.size = 1 ∧ i.bytes = 2 := by
  have h : (Try.prog.info? 23).map (fun i => (i.zero, i.size, i.bytes)) = some (some (.int .u16 0), 1, 2) := by kernel_rfl
  cases hi : Try.prog.info? 23 with
  | none => rw [hi] at h; simp at h
  | some i => rw [hi] at h; simp at h; exact ⟨i, rfl, h.1, h.2.1, h.2.2⟩
/-- a row of sets of one's own, so far -/
structure OwL (w0 : World) (l : List Nat) (v : Value) (w : World) : Prop where
  own : w.ownsRow w0.heap.size 23 1 v l.length (numsU l)
  bel : Below w0.heap.size w0 w
theorem owL_nil (w : World) : OwL w [] (.slice none 0 0) w := ⟨World.ownsRow_nil _ _ _ _, Below.refl _ _⟩
theorem OwL.step {w0 w w' : World} {l : List Nat} {v : Value} (h : OwL w0 l v w) (hb : Below w.heap.size w w') : OwL w0 l v w' :=
  ⟨World.ownsRow.kept (row := none) h.own ⟨hb.os, hb.tape, hb.output, hb.size, fun k hk _ => hb.block k hk⟩ (by cases v.ownBlock <;> simp), below_seq h.bel hb⟩
theorem OwL.alloc {w0 w : World} {l : List Nat} {v : Value} (h : OwL w0 l v w) (x : Obj) : OwL w0 l v (w.alloc x) := ⟨h.own.alloc x, h.bel.alloc h.bel.size x⟩
/-- sets that lie in a block that was made behind the N-th, or none -/
def RU (N : Nat) (W : World) (a : Option Addr) (l : List Nat) : Prop := 0 < l.length → ∃ b, a = some ⟨b, 0, none⟩ ∧ N ≤ b ∧ b < W.heap.size ∧ ∀ q x, l[q]? = some x → W.cell? ⟨b, q, none⟩ = some (.int .u16 (x : Nat))
theorem RU.step {N : Nat} {W W' : World} {a : Option Addr} {l : List Nat} (h : RU N W a l) (hb : Below W.heap.size W W') : RU N W' a l := fun hn => by
  obtain ⟨b, rfl, h1, h2, h3⟩ := h hn
  exact ⟨b, rfl, h1, Nat.lt_of_lt_of_le h2 hb.size, fun q x hq => (hb.cell (p := ⟨b, q, none⟩) h2).trans (h3 q x hq)⟩
/-- n sets that lie one behind another in memory that is there, or none -/
def RS (w : World) (a : Option Addr) (n : Nat) (f : Nat → Nat) : Prop := 0 < n → ∃ b o, a = some ⟨b, o, none⟩ ∧ b < w.heap.size ∧ ∀ j, j < n → w.cell? ⟨b, o + j, none⟩ = some (.int .u16 ((f j : Nat) : Int))
theorem RS.step {w w' : World} {a : Option Addr} {n : Nat} {f : Nat → Nat} (h : RS w a n f) (hb : Below w.heap.size w w') : RS w' a n f := fun hn => by
  obtain ⟨b, o, rfl, h1, h2⟩ := h hn
  exact ⟨b, o, rfl, Nat.lt_of_lt_of_le h1 hb.size, fun j hj => (hb.cell (p := ⟨b, o + j, none⟩) h1).trans (h2 j hj)⟩
theorem RU.rs {N : Nat} {W : World} {a : Option Addr} {l : List Nat} (h : RU N W a l) : RS W a l.length (fun j => l.getD j 0) := fun hn => by
  obtain ⟨b, rfl, h1, h2, h3⟩ := h hn
  refine ⟨b, 0, rfl, h2, fun j hj => ?_⟩
  rw [Nat.zero_add]
  refine h3 j _ ?_
  show l[j]? = some (l.getD j 0)
  rw [List.getD_eq_getElem?_getD, List.getElem?_eq_getElem hj]
  rfl
/-- what a call tells: a new row of sets, or none -/
def RowU (w : World) (l : List Nat) (v : Value) (w' : World) : Prop := ∃ a c, v = .slice a l.length c ∧ l.length ≤ c ∧ RU w.heap.size w' a l ∧ Below w.heap.size w w'
theorem OwL.row {w W : World} {l : List Nat} {v : Value} (h : OwL w l v W) : RowU w l v W := by
  rcases h.own.2 with ⟨e1, e2⟩ | ⟨g, cap, cur, e1, e2, e3, e4, e5, _⟩
  · subst e1
    exact ⟨none, 0, by rw [e2], by omega, fun hn => absurd hn (by omega), h.bel⟩
  · subst e1
    refine ⟨_, cap, rfl, e4, fun _ => ⟨g, rfl, (h.own.lt g rfl).1, (h.own.lt g rfl).2, fun j x hj => ?_⟩, h.bel⟩
    have hl : j < l.length := (List.getElem?_eq_some_iff.1 hj).1
    have := h.own.cellAt j (by rw [Nat.mul_one]; exact hl)
    rw [this]
    unfold numsU
    rw [List.getElem?_map, hj]
    rfl

end Go.Proofs.Ytacophekhknbpaa
