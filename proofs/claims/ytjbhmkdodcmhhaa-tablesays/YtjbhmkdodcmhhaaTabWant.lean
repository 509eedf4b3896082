/-
  The table that the verifier builds by append: two rows that grow side by side.
-/
import Derived.Test.YtjbhmkdodcmhhaaTabSame
import Derived.Test.YtjbhmkdodcmhhaaTabTurned
import Derived.Deep.AppendLies
import Derived.Test.YtjbhmkdodcmhhaaUntil
import Derived.Deep.RegionHeld3
namespace Go.Proofs.Ytjbhmkdodcmhhaa
open Go.RowKit

def wantX (X : Nat → Int) (n k : Nat) : List Value := (List.range k).map fun j => .int .i32 (-X (n - 1 - j))
def wantY (Y : Nat → Int) (n k : Nat) : List Value := (List.range k).map fun j => .int .i32 (Y (n - 1 - j))
theorem wantX_snoc (X : Nat → Int) (n k i : Nat) (h : i + k + 1 = n) : wantX X n k ++ [.int .i32 (-X i)] = wantX X n (k + 1) := by
  unfold wantX
  rw [List.range_succ, List.map_append]
  simp only [List.map_cons, List.map_nil]
  rw [show n - 1 - k = i by omega]
theorem wantY_snoc (Y : Nat → Int) (n k i : Nat) (h : i + k + 1 = n) : wantY Y n k ++ [.int .i32 (Y i)] = wantY Y n (k + 1) := by
  unfold wantY
  rw [List.range_succ, List.map_append]
  simp only [List.map_cons, List.map_nil]
  rw [show n - 1 - k = i by omega]

theorem news1 {W : World} {B : Nat} {u0 : Value} (h : W.cell? ⟨B, 0, none⟩ = some u0) : ∀ j u, [u0][j]? = some u → W.cell? ((⟨B, 0, none⟩ : Addr).add j) = some u := fun j u hu => by
  match j, hu with
  | 0, hu =>
    simp at hu
    subst hu
    simpa [Addr.add] using h
theorem own_swap {a b : Option Nat} (h : a = none ∨ a ≠ b) : b = none ∨ b ≠ a := by
  rcases h with h | h
  · subst h
    cases b with
    | none => exact .inl rfl
    | some b => exact .inr (by simp)
  · exact .inr (Ne.symm h)

/-- what is read, and stays; what is read, and stored into at the end -/
def RU (W : World) (b0 C bX x bY y : Nat) (v0 v1 xv yv : Value) : Prop :=
  W.cell? ⟨b0, 0, none⟩ = some v0 ∧ W.cell? ⟨b0, 1, none⟩ = some v1 ∧ W.cell? ⟨bX, x, none⟩ = some xv ∧ W.cell? ⟨bY, y, none⟩ = some yv ∧ W.frozen? ⟨C, 0, none⟩ = false ∧ W.frozen? ⟨C, 1, none⟩ = false
def RT (W : World) (C : Nat) (u0 u1 : Value) : Prop := W.cell? ⟨C, 0, none⟩ = some u0 ∧ W.cell? ⟨C, 1, none⟩ = some u1
theorem RU.below {w W : World} {B b0 C bX x bY y : Nat} {v0 v1 xv yv : Value} (h : RU w b0 C bX x bY y v0 v1 xv yv) (hb : Below B w W) (h0 : b0 < B) (hC : C < B) (hx : bX < B) (hy : bY < B) : RU W b0 C bX x bY y v0 v1 xv yv :=
  ⟨(hb.cell (p := ⟨b0, 0, none⟩) h0).trans h.1, (hb.cell (p := ⟨b0, 1, none⟩) h0).trans h.2.1, (hb.cell (p := ⟨bX, x, none⟩) hx).trans h.2.2.1, (hb.cell (p := ⟨bY, y, none⟩) hy).trans h.2.2.2.1,
    (hb.frozen (p := ⟨C, 0, none⟩) hC).trans h.2.2.2.2.1, (hb.frozen (p := ⟨C, 1, none⟩) hC).trans h.2.2.2.2.2⟩
theorem RU.set {W : World} {b0 C bX x bY y j : Nat} {v0 v1 xv yv v : Value} (h : RU W b0 C bX x bY y v0 v1 xv yv) (h0 : C ≠ b0) (hx : C ≠ bX) (hy : C ≠ bY) : RU (W.setCell ⟨C, j, none⟩ v) b0 C bX x bY y v0 v1 xv yv :=
  ⟨(cell_set_other (Ne.symm h0)).trans h.1, (cell_set_other (Ne.symm h0)).trans h.2.1, (cell_set_other (Ne.symm hx)).trans h.2.2.1, (cell_set_other (Ne.symm hy)).trans h.2.2.2.1, (World.frozen?_setCell _ _ _ _).trans h.2.2.2.2.1, (World.frozen?_setCell _ _ _ _).trans h.2.2.2.2.2⟩
theorem RT.below {w W : World} {B C : Nat} {u0 u1 : Value} (h : RT w C u0 u1) (hb : Below B w W) (hC : C < B) : RT W C u0 u1 := ⟨(hb.cell (p := ⟨C, 0, none⟩) hC).trans h.1, (hb.cell (p := ⟨C, 1, none⟩) hC).trans h.2⟩
theorem own_far {oa ob : Option Nat} {gx H s : Nat} (hat : oa = some gx ∨ gx = H) (ne : oa = none ∨ oa ≠ ob) (nb : ∀ b, s ≤ b → some b ≠ ob) (hH : s ≤ H) : some gx ≠ ob := by
  rcases hat with h | h
  · rcases ne with e | e
    · rw [h] at e; cases e
    · rw [← h]; exact e
  · exact nb gx (by omega)
theorem own_apart {ob : Option Nat} {gx gy H s : Nat} (h : some gx ≠ ob) (hat : ob = some gy ∨ gy = H) (hlt : gx < s) (hH : s ≤ H) : gx ≠ gy := by
  rintro rfl
  rcases hat with e | e
  · exact h e.symm
  · omega

/-- the first k points are there, turned round -/
structure Want (w0 wr : World) (C n k : Nat) (ax ay : Option Addr) (cx cy : Nat) (X Y : Nat → Int) : Prop where
  ownX : wr.ownsRow (C + 1) 21 1 (.slice ax k cx) k (wantX X n k)
  ownY : wr.ownsRow (C + 1) 21 1 (.slice ay k cy) k (wantY Y n k)
  ne : (Value.slice ax k cx).ownBlock = none ∨ (Value.slice ax k cx).ownBlock ≠ (Value.slice ay k cy).ownBlock
  row : wr.rowIs C 24 2 (fun j => if j = 0 then .slice ax k cx else .slice ay k cy)
  bel : Below C w0 wr
  size : C + 1 ≤ wr.heap.size

theorem want_start (w0 : World) (n : Nat) (X Y : Nat → Int) : Want w0 (w0.alloc (.cells #[.slice none 0 0, .slice none 0 0] 24)) w0.heap.size n 0 none none 0 0 X Y where
  ownX := World.ownsRow_nil _ _ _ _
  ownY := World.ownsRow_nil _ _ _ _
  ne := .inl rfl
  row := (World.rowIs_alloc w0 #[.slice none 0 0, .slice none 0 0] 24 (fun _ => .slice none 0 0) (fun i hi => by
    match i, hi with
    | 0, _ => rfl
    | 1, _ => rfl)).congr (fun j _ => by simp)
  bel := (Below.refl _ _).alloc (Nat.le_refl _) _
  size := by simp

/-- behind the two appends, in whatever order, and the two stores -/
theorem want_step {w0 wr wy : World} {C n k gx gy : Nat} {ax ay : Option Addr} {cx cy cx' cy' : Nat} {X Y : Nat → Int} (h : Want w0 wr C n k ax ay cx cy X Y) (bel : Below (C + 1) wr wy)
    (oX : wy.ownsRow (C + 1) 21 1 (.slice (some ⟨gx, 0, none⟩) (k + 1) cx') (k + 1) (wantX X n (k + 1))) (oY : wy.ownsRow (C + 1) 21 1 (.slice (some ⟨gy, 0, none⟩) (k + 1) cy') (k + 1) (wantY Y n (k + 1))) (ne : gx ≠ gy) :
    Want w0 ((wy.setCell ⟨C, 0, none⟩ (.slice (some ⟨gx, 0, none⟩) (k + 1) cx')).setCell ⟨C, 1, none⟩ (.slice (some ⟨gy, 0, none⟩) (k + 1) cy')) C n (k + 1) (some ⟨gx, 0, none⟩) (some ⟨gy, 0, none⟩) cx' cy' X Y where
  ownX := ownsRow_setCell_below (ownsRow_setCell_below oX (by show C < C + 1; omega) _) (by show C < C + 1; omega) _
  ownY := ownsRow_setCell_below (ownsRow_setCell_below oY (by show C < C + 1; omega) _) (by show C < C + 1; omega) _
  ne := .inr (by simp [Value.ownBlock, ne])
  row := (((h.row.of_block (bel.block C (by omega))).set 0 _).set 1 _).congr (fun j hj => by
    rcases (show j = 0 ∨ j = 1 by omega) with rfl | rfl
    · simp
    · simp)
  bel := ((h.bel.trans (bel.mono (by omega))).setCell (p := ⟨C, 0, none⟩) (Nat.le_refl _) _).setCell (p := ⟨C, 1, none⟩) (Nat.le_refl _) _
  size := by
    have := bel.size
    have := h.size
    simp only [World.size_setCell]
    omega

theorem row_of_own {w : World} {base g n c : Nat} {t : TypeId} {l : Nat → Int} {xs : List Value} (h : w.ownsRow base t 1 (.slice (some ⟨g, 0, none⟩) n c) n xs) (hx : ∀ j : Nat, j < n → xs[j]? = some (.int .i32 (l j))) : Row32 w g 0 n l := fun j hj => by
  have := h.cells (g := g) rfl j _ (hx j hj)
  rwa [Go.WideShapes.add_plain] at this
theorem want_rows {w0 wr : World} {C n : Nat} {ax ay : Option Addr} {cx cy : Nat} {X Y : Nat → Int} (h : Want w0 wr C n n ax ay cx cy X Y) (hn : 0 < n) :
    ∃ gx gy : Nat, ax = some ⟨gx, 0, none⟩ ∧ ay = some ⟨gy, 0, none⟩ ∧ gx < wr.heap.size ∧ gy < wr.heap.size ∧ Row32 wr gx 0 n (turnX X n) ∧ Row32 wr gy 0 n (turnY Y n) := by
  obtain ⟨gx, c1, e1, _, l1⟩ := h.ownX.form hn
  obtain ⟨gy, c2, e2, _, l2⟩ := h.ownY.form hn
  simp only [Value.slice.injEq] at e1 e2
  obtain ⟨rfl, _, _⟩ := e1
  obtain ⟨rfl, _, _⟩ := e2
  exact ⟨gx, gy, rfl, rfl, l1, l2, row_of_own h.ownX (fun j hj => by simp [wantX, hj, turnX]), row_of_own h.ownY (fun j hj => by simp [wantY, hj, turnY])⟩

end Go.Proofs.Ytjbhmkdodcmhhaa
