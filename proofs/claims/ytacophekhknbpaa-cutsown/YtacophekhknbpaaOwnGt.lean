/-
  What CutsOwn carries: gates in a row of its own whose numbers lie in rows with memory to spare; what answers there are, and that they lie behind all that is spoilt.
-/
import Derived.Test.YtacophekhknbpaaOwnU
import Derived.Test.YtacophekhknbpaaGatClo
import Derived.Test.YtacophekhknbpaaGatDua
import Derived.Test.YtacophekhknbpaaGatCuts
import Derived.Test.YtacophekhknbpaaGatEq
import Derived.Test.YtacophekhknbpaaOpenG
import Derived.Test.YtacophekhknbpaaEi
namespace Go.Proofs.Ytacophekhknbpaa
open Go.RowKit
set_option linter.unusedVariables false

/-- the gates, the rows of the first q in the blocks g -/
def inG (t : Nat → Gt) (g c : Nat → Nat) (q j : Nat) : Gt := if j < q then ⟨(t j).k, (t j).v, some ⟨g j, 0, none⟩, (t j).n, c j, (t j).of⟩ else t j
def upd (g : Nat → Nat) (q x : Nat) : Nat → Nat := fun j => if j = q then x else g j
theorem upd_lt {g : Nat → Nat} {q x j : Nat} (h : j < q) : upd g q x j = g j := by
  unfold upd
  rw [if_neg (by omega)]
theorem upd_at {g : Nat → Nat} {q x : Nat} : upd g q x q = x := by
  unfold upd
  rw [if_pos rfl]
theorem gb_set (w : World) (G j : Nat) (v : Value) : w.grownBy (w.setCell ⟨G, j, none⟩ v) (some G) :=
  ⟨rfl, rfl, rfl, by simp [World.setCell], fun k _ hne => Below.heap_setCell w ⟨G, j, none⟩ v k (fun e => hne (by rw [e]))⟩
theorem gb_below {w w' : World} (h : Below w.heap.size w w') : w.grownBy w' none := ⟨h.os, h.tape, h.output, h.size, fun k hk _ => h.block k hk⟩
theorem AmpleI.grown {N : Nat} {w w' : World} {g cap n : Nat} {l : Nat → Int} {f : Int} {row : Option Nat} (h : AmpleI N w g cap n l f) (hg : w.grownBy w' row) (hne : some g ≠ row) : AmpleI N w' g cap n l f :=
  World.ownsRow.kept h hg (by simpa [Value.ownBlock] using hne)
theorem AmpleU.grown {N : Nat} {w w' : World} {g cap n : Nat} {l : Nat → Int} {f : Int} {row : Option Nat} (h : AmpleU N w g cap n l f) (hg : w.grownBy w' row) (hne : some g ≠ row) : AmpleU N w' g cap n l f :=
  World.ownsRow.kept h hg (by simpa [Value.ownBlock] using hne)

/-- the row of the law's own gates, the first q with rows of numbers of their own -/
structure InSt (N : Nat) (w : World) (a : Option Addr) (n q : Nat) (t : Nat → Gt) (g c : Nat → Nat) : Prop where
  row : 0 < n → ∃ G, a = some ⟨G, 0, none⟩ ∧ N ≤ G ∧ G < w.heap.size ∧ (∀ j, j < n → GAt w G (j * 3) (inG t g c q j)) ∧ (∀ i, i < n * 3 → w.frozen? ⟨G, i, none⟩ = false) ∧ ∀ j, j < q → G < g j
  amp : ∀ j, j < q → AmpleI N w (g j) (c j) (t j).n (t j).of 77
  inc : ∀ i j, i < j → j < q → g i < g j
theorem AmpleI.lt {N : Nat} {w : World} {g cap n : Nat} {l : Nat → Int} {f : Int} (h : AmpleI N w g cap n l f) : N ≤ g ∧ g < w.heap.size ∧ n + 2 ≤ cap ∧ cap ≤ maxLen := by
  obtain ⟨h1, h2, h3, h4, _⟩ := cap_ofI h (by omega)
  exact ⟨h3, h4, h1, h2⟩
theorem InSt.step {N : Nat} {w w' : World} {a : Option Addr} {n q : Nat} {t : Nat → Gt} {g c : Nat → Nat} (h : InSt N w a n q t g c) (hb : Below w.heap.size w w') : InSt N w' a n q t g c :=
  ⟨fun hn => by
    obtain ⟨G, rfl, h1, h2, h3, h4, h5⟩ := h.row hn
    exact ⟨G, rfl, h1, Nat.lt_of_lt_of_le h2 hb.size, fun j hj => (h3 j hj).step hb h2, fun i hi => (hb.frozen (p := ⟨G, i, none⟩) h2).trans (h4 i hi), h5⟩, fun j hj => (h.amp j hj).grown (gb_below hb) (by simp), h.inc⟩
/-- the next one's row -/
theorem InSt.next {N : Nat} {w : World} {G n q : Nat} {t : Nat → Gt} {g c : Nat → Nat} (h : InSt N w (some ⟨G, 0, none⟩) n q t g c) (hq : q < n) (x y : Nat) (hA : AmpleI N w x y (t q).n (t q).of 77) (hx : ∀ j, j < q → g j < x) (hG : G < x) :
    InSt N (w.setCell ⟨G, q * 3 + 2, none⟩ (.slice (some ⟨x, 0, none⟩) (t q).n y)) (some ⟨G, 0, none⟩) n (q + 1) t (upd g q x) (upd c q y) := by
  obtain ⟨G', e, h1, h2, h3, h4, h5⟩ := h.row (by omega)
  cases e
  have hset := gb_set w G (q * 3 + 2) (.slice (some ⟨x, 0, none⟩) (t q).n y)
  refine ⟨fun _ => ⟨G, rfl, h1, by simp [World.setCell]; exact h2, fun j hj => ?_, fun i hi => by rw [World.frozen?_setCell]; exact h4 i hi, fun j hj => ?_⟩, fun j hj => ?_, fun i j hij hj => ?_⟩
  · obtain ⟨k0, k1, k2⟩ := h3 j hj
    by_cases e : j = q
    · subst e
      have e1 : inG t g c j j = t j := by unfold inG; rw [if_neg (by omega)]
      have e2 : inG t (upd g j x) (upd c j y) (j + 1) j = ⟨(t j).k, (t j).v, some ⟨x, 0, none⟩, (t j).n, y, (t j).of⟩ := by unfold inG; rw [if_pos (by omega), upd_at, upd_at]
      rw [e1] at k0 k1 k2
      rw [e2]
      refine ⟨(World.cell?_setCell_other _ _ _ _ (by simp <;> omega)).trans k0, (World.cell?_setCell_other _ _ _ _ (by simp <;> omega)).trans k1, World.cell?_setCell_same _ _ _ k2⟩
    · have e2 : inG t (upd g q x) (upd c q y) (q + 1) j = inG t g c q j := by
        unfold inG
        by_cases e3 : j < q
        · rw [if_pos (by omega), if_pos e3, upd_lt e3, upd_lt e3]
        · rw [if_neg (by omega), if_neg e3]
      rw [e2]
      refine ⟨(World.cell?_setCell_other _ _ _ _ (by simp <;> omega)).trans k0, (World.cell?_setCell_other _ _ _ _ (by simp <;> omega)).trans k1, (World.cell?_setCell_other _ _ _ _ (by simp <;> omega)).trans k2⟩
  · by_cases e : j = q
    · subst e
      rw [upd_at]
      exact hG
    · rw [upd_lt (by omega)]
      exact h5 j (by omega)
  · by_cases e : j = q
    · subst e
      rw [upd_at, upd_at]
      exact hA.grown hset (by simp; omega)
    · rw [upd_lt (by omega), upd_lt (by omega)]
      exact (h.amp j (by omega)).grown hset (by have := h5 j (by omega); simp; omega)
  · by_cases e : j = q
    · subst e
      rw [upd_at, upd_lt hij]
      exact hx i hij
    · rw [upd_lt (by omega), upd_lt (by omega)]
      exact h.inc i j hij (by omega)
/-- the law's own gates, right behind the clone -/
theorem inSt_of {N : Nat} {w : World} {v : Value} {n : Nat} {t : Nat → Gt} (h : w.ownsRow N 41 3 v n (valG t n)) : ∃ a c, v = .slice a n c ∧ InSt N w a n 0 t (fun _ => 0) (fun _ => 0) := by
  rcases h.2 with ⟨rfl, rfl⟩ | ⟨g, cap, cur, rfl, hb, hg, h1, h2, h3, _⟩
  · exact ⟨none, 0, rfl, ⟨fun hn => absurd hn (by omega), fun j hj => absurd hj (by omega), fun i j _ hj => absurd hj (by omega)⟩⟩
  · refine ⟨_, cap, rfl, ⟨fun hn => ⟨g, rfl, hb, (Array.getElem?_eq_some_iff.1 hg).1, fun j hj => ?_, fun i hi => h.frozenAt i, fun j hj => absurd hj (by omega)⟩, fun j hj => absurd hj (by omega), fun i j _ hj => absurd hj (by omega)⟩⟩
    have k : ∀ i, i < 3 → w.cell? ⟨g, j * 3 + i, none⟩ = some (cellG t (j * 3 + i)) := fun i hi => by
      have := World.ownsRow.cellAt h (j * 3 + i) (by omega)
      rw [valG_get t (by omega)] at this
      exact this
    have e : inG t (fun _ => 0) (fun _ => 0) 0 j = t j := by unfold inG; rw [if_neg (by omega)]
    rw [e]
    exact ⟨by rw [← cellG_0]; exact k 0 (by omega), by rw [← cellG_1]; exact k 1 (by omega), by rw [← cellG_2]; exact k 2 (by omega)⟩
/-- as a tree -/
theorem InSt.rowG {N : Nat} {w : World} {a : Option Addr} {n : Nat} {t : Nat → Gt} {g c : Nat → Nat} (h : InSt N w a n n t g c) (hw : ∀ j, j < n → GW (t j)) : RowG w a n (inG t g c n) := by
  refine ⟨fun hn => ?_, fun j hj => ?_, fun j hj => ?_⟩
  · obtain ⟨G, rfl, h1, h2, h3, _⟩ := h.row hn
    exact ⟨G, 0, rfl, h2, fun j hj => by rw [Nat.zero_add]; exact h3 j hj⟩
  · have e : inG t g c n j = ⟨(t j).k, (t j).v, some ⟨g j, 0, none⟩, (t j).n, c j, (t j).of⟩ := by unfold inG; rw [if_pos hj]
    rw [e]
    have hA := h.amp j hj
    refine fun _ => ⟨g j, 0, rfl, hA.lt.2.1, fun i hi => ?_⟩
    have hi2 : i < (t j).n := hi
    have := World.ownsRow.cellAt hA i (by omega)
    rw [List.getElem?_append_left (by rw [valK_length]; exact hi2), valK_get hi2, Nat.zero_add] at this
    rw [Nat.zero_add]
    exact this
  · have e : inG t g c n j = ⟨(t j).k, (t j).v, some ⟨g j, 0, none⟩, (t j).n, c j, (t j).of⟩ := by unfold inG; rw [if_pos hj]
    rw [e]
    exact ⟨(hw j hj).small, (hw j hj).lo, (hw j hj).hi⟩

/-- what Dual answers, right or wrong: gates in blocks from M on -/
structure DRow (M : Nat) (w : World) (a : Option Addr) (m : Nat) (u : Nat → Gt) : Prop where
  row : 0 < m → ∃ b, a = some ⟨b, 0, none⟩ ∧ M ≤ b ∧ b < w.heap.size ∧ ∀ j, j < m → GAt w b (j * 3) (u j)
  of : ∀ j, j < m → RIN M w (u j).a (u j).n (u j).of
  ok : ∀ j, j < m → GW (u j) ∧ (u j).n ≤ 6
theorem DRow.step {M : Nat} {w w' : World} {a : Option Addr} {m : Nat} {u : Nat → Gt} (h : DRow M w a m u) (hb : Below w.heap.size w w') : DRow M w' a m u :=
  ⟨fun hm => by
    obtain ⟨b, rfl, h1, h2, h3⟩ := h.row hm
    exact ⟨b, rfl, h1, Nat.lt_of_lt_of_le h2 hb.size, fun j hj => (h3 j hj).step hb h2⟩, fun j hj => (h.of j hj).step hb, h.ok⟩
theorem DRow.mono {M K : Nat} {w : World} {a : Option Addr} {m : Nat} {u : Nat → Gt} (h : DRow M w a m u) (hK : K ≤ M) : DRow K w a m u :=
  ⟨fun hm => by
    obtain ⟨b, rfl, h1, h2⟩ := h.row hm
    exact ⟨b, rfl, Nat.le_trans hK h1, h2⟩, fun j hj => (h.of j hj).mono hK, h.ok⟩
theorem DRow.rowG {M : Nat} {w : World} {a : Option Addr} {m : Nat} {u : Nat → Gt} (h : DRow M w a m u) : RowG w a m u :=
  ⟨fun hm => by
    obtain ⟨b, rfl, _, h2, h3⟩ := h.row hm
    exact ⟨b, 0, rfl, h2, fun j hj => by rw [Nat.zero_add]; exact h3 j hj⟩, fun j hj => (h.of j hj).ri, fun j hj => (h.ok j hj).1⟩
theorem dual_res (a : Option Addr) (n c : Nat) (t : Nat → Gt) (w : World) (h : RowG w a n t) :
    Calls Try.prog 11 #[.slice a n c] w fun e w' => ∃ a' c' u, e = .returned (.tuple #[.slice a' (if chG t n = 0 then n else 0) c', .int .i64 (chG t n)]) ∧ DRow w.heap.size w' a' (if chG t n = 0 then n else 0) u ∧ (∀ j, j < (if chG t n = 0 then n else 0) → DualOf (t j) (u j)) ∧ Below w.heap.size w w' := by
  by_cases q : chG t n = 0
  · simp only [q, if_true]
    refine (dual_ok a n c t w h q).mono ?_
    rintro e w' ⟨b, u, rfl, hd, hb⟩
    refine ⟨some ⟨b, 0, none⟩, n, u, rfl, ⟨fun _ => ⟨b, rfl, hd.new, hd.lt, hd.cell⟩, hd.duo.row, fun j hj => ⟨(hd.rowG q).ok j hj, ?_⟩⟩, hd.duo.dual, hb⟩
    rw [(hd.duo.dual j hj).n]
    exact (geE_zero ((chG_zero q).2.2 j hj)).2.1
  · simp only [q, if_false]
    refine (dual_bad a n c t w h _ rfl q).mono ?_
    rintro e w' ⟨rfl, hb⟩
    exact ⟨none, 0, t, rfl, ⟨fun hm => absurd hm (by omega), fun j hj => absurd hj (by omega), fun j hj => absurd hj (by omega)⟩, fun j hj => absurd hj (by omega), hb⟩
theorem cuts_res (a : Option Addr) (n c : Nat) (t : Nat → Gt) (w : World) (h : RowG w a n t) :
    Calls Try.prog 10 #[.slice a n c] w fun e w' => ∃ v l E, e = .returned (.tuple #[v, .int .i64 E]) ∧ RowU w l v w' ∧ l.length ≤ 256 := by
  by_cases q : chG t n = 0
  · refine (cuts_ok a n c t w h q).mono ?_
    rintro e w' ⟨v, rfl, hv⟩
    exact ⟨v, _, 0, rfl, hv, leastL_le _⟩
  · refine (cuts_bad a n c t w h _ rfl q).mono ?_
    rintro e w' ⟨rfl, hb⟩
    exact ⟨_, [], _, rfl, ⟨none, 0, rfl, Nat.le_refl _, fun hn => absurd hn (by simp), hb⟩, by simp⟩
theorem fails_res (a : Option Addr) (n c : Nat) (t : Nat → Gt) (w : World) (h : RowG w a n t) :
    Calls Try.prog 9 #[.slice a n c, .int .u16 3] w fun e w' => ∃ b E, e = .returned (.tuple #[.bool b, .int .i64 E]) ∧ Below w.heap.size w w' := by
  by_cases q : chG t n = 0
  · refine (fails_ok a n c 3 t w h q (by decide)).mono ?_
    rintro e w' ⟨rfl, hb⟩
    exact ⟨_, _, rfl, hb⟩
  · refine (fails_bad a n c 3 t w h _ rfl q).mono ?_
    rintro e w' ⟨rfl, hb⟩
    exact ⟨_, _, rfl, hb⟩
theorem across_res (a : Option Addr) (n c : Nat) (f : Nat → Nat) (w : World) (h : RS w a n f) (hf : ∀ j, f j < 65536) :
    Calls Try.prog 12 #[.slice a n c] w fun e w' => ∃ v l E, e = .returned (.tuple #[v, .int .i64 E]) ∧ RowU w l v w' ∧ l.length ≤ 256 := by
  by_cases q : 100 < n
  · refine (across_large a n c w q).mono ?_
    rintro e w' ⟨rfl, hb⟩
    exact ⟨_, [], _, rfl, ⟨none, 0, rfl, Nat.le_refl _, fun hn => absurd hn (by simp), hb⟩, by simp⟩
  · refine (across_small a n c f w q h (fun j _ => hf j) _ rfl).mono ?_
    rintro e w' (⟨_, rfl, hb⟩ | ⟨_, v, rfl, hv⟩)
    · exact ⟨_, [], _, rfl, ⟨none, 0, rfl, Nat.le_refl _, fun hn => absurd hn (by simp), hb⟩, by simp⟩
    · exact ⟨v, _, 0, rfl, hv, leastL_le _⟩

/-- a world that was turned below block M alone -/
structure Spo (M : Nat) (w w' : World) : Prop where
  size : w'.heap.size = w.heap.size
  block : ∀ k, M ≤ k → w'.heap[k]? = w.heap[k]?
theorem Spo.cell {M : Nat} {w w' : World} (h : Spo M w w') {b j : Nat} (hb : M ≤ b) : w'.cell? ⟨b, j, none⟩ = w.cell? ⟨b, j, none⟩ := World.cell?_of_block (a := ⟨b, j, none⟩) (h.block b hb)
theorem RU.spo {M : Nat} {w w' : World} {a : Option Addr} {l : List Nat} (h : RU M w a l) (hs : Spo M w w') : RU M w' a l := fun hn => by
  obtain ⟨b, rfl, h1, h2, h3⟩ := h hn
  exact ⟨b, rfl, h1, by rw [hs.size]; exact h2, fun q x hq => (hs.cell h1).trans (h3 q x hq)⟩
theorem RU.mono {N M : Nat} {w : World} {a : Option Addr} {l : List Nat} (h : RU N w a l) (hM : M ≤ N) : RU M w a l := fun hn => by
  obtain ⟨b, rfl, h1, h2⟩ := h hn
  exact ⟨b, rfl, Nat.le_trans hM h1, h2⟩
theorem DRow.spo {M : Nat} {w w' : World} {a : Option Addr} {m : Nat} {u : Nat → Gt} (h : DRow M w a m u) (hs : Spo M w w') : DRow M w' a m u :=
  ⟨fun hm => by
    obtain ⟨b, rfl, h1, h2, h3⟩ := h.row hm
    exact ⟨b, rfl, h1, by rw [hs.size]; exact h2, fun j hj => ⟨(hs.cell h1).trans (h3 j hj).hk, (hs.cell h1).trans (h3 j hj).hv, (hs.cell h1).trans (h3 j hj).hs⟩⟩, fun j hj hn => by
    obtain ⟨b, e, h1, h2, h3⟩ := h.of j hj hn
    exact ⟨b, e, h1, by rw [hs.size]; exact h2, fun i hi => (hs.cell h1).trans (h3 i hi)⟩, h.ok⟩
/-- the first q rows are spoilt, and nothing else -/
structure Spt (g : Nat → Nat) (q : Nat) (w w' : World) : Prop where
  os : w'.os = w.os
  tape : w'.tape = w.tape
  output : w'.output = w.output
  size : w'.heap.size = w.heap.size
  block : ∀ k, (∀ j, j < q → k ≠ g j) → w'.heap[k]? = w.heap[k]?
theorem spt_refl (g : Nat → Nat) (w : World) : Spt g 0 w w := ⟨rfl, rfl, rfl, rfl, fun _ _ => rfl⟩
theorem Spt.next {g : Nat → Nat} {q : Nat} {w w1 w2 : World} (h : Spt g q w w1) (ho : Only (g q) w1 w2) : Spt g (q + 1) w w2 :=
  ⟨ho.os.trans h.os, ho.tape.trans h.tape, ho.output.trans h.output, ho.size.trans h.size, fun k hk => (ho.block k (hk q (by omega))).trans (h.block k fun j hj => hk j (by omega))⟩

end Go.Proofs.Ytacophekhknbpaa
