/-
  Entries in a row of one's own: slices.Clone, slices.Equal at entries.
-/
import Derived.Test.YtkklinjamcfppaaDoorEntRow
import Derived.OwnWalk
import Derived.Lib.SliceRun
import Derived.Deep.AppendLies
import Derived.Laws.OwnMore
import Derived.Deep.Onto
import Derived.Laws.StructEq
namespace Go.Proofs.YtkklinjamcfppaaDoor
open Go.RowKit
set_option linter.unusedVariables false

/-- the j-th cell of entries that lie one behind another -/
def cellE (l : Nat → En) (j : Nat) : Value := .int .i64 (if j % 4 = 0 then (l (j / 4)).f else if j % 4 = 1 then (l (j / 4)).l else if j % 4 = 2 then (l (j / 4)).c else (l (j / 4)).m)
def valE (l : Nat → En) (n : Nat) : List Value := (List.range (n * 4)).map (cellE l)
theorem valE_length (l : Nat → En) (n : Nat) : (valE l n).length = n * 4 := by simp [valE]
theorem valE_get (l : Nat → En) {n j : Nat} (h : j < n * 4) : (valE l n)[j]? = some (cellE l j) := by
  unfold valE
  rw [List.getElem?_map, List.getElem?_range h]
  rfl
theorem valE_at {l : Nat → En} {n j : Nat} {u : Value} (h : (valE l n)[j]? = some u) : j < n * 4 ∧ u = cellE l j := by
  have q := (List.getElem?_eq_some_iff.1 h).1
  rw [valE_length] at q
  rw [valE_get l q] at h
  exact ⟨q, by simpa using h.symm⟩
theorem valE_one {l : Nat → En} {n : Nat} {u : Value} (h : u ∈ valE l n) : u.oneCell' = true := by
  unfold valE at h
  obtain ⟨t, _, rfl⟩ := List.mem_map.1 h
  rfl
theorem cellE_0 (l : Nat → En) (q : Nat) : cellE l (q * 4) = .int .i64 (l q).f := by
  unfold cellE
  rw [show q * 4 % 4 = 0 by omega, show q * 4 / 4 = q by omega]; rfl
theorem cellE_1 (l : Nat → En) (q : Nat) : cellE l (q * 4 + 1) = .int .i64 (l q).l := by
  unfold cellE
  rw [show (q * 4 + 1) % 4 = 1 by omega, show (q * 4 + 1) / 4 = q by omega]; rfl
theorem cellE_2 (l : Nat → En) (q : Nat) : cellE l (q * 4 + 2) = .int .i64 (l q).c := by
  unfold cellE
  rw [show (q * 4 + 2) % 4 = 2 by omega, show (q * 4 + 2) / 4 = q by omega]; rfl
theorem cellE_3 (l : Nat → En) (q : Nat) : cellE l (q * 4 + 3) = .int .i64 (l q).m := by
  unfold cellE
  rw [show (q * 4 + 3) % 4 = 3 by omega, show (q * 4 + 3) / 4 = q by omega]; rfl
/-- a cell of a row that lies somewhere -/
theorem eat_cell {w : World} {b o n : Nat} {l : Nat → En} (h : ∀ j, j < n → EAt w b (o + j * 4) (l j)) {j : Nat} (hj : j < n * 4) : w.cell? ⟨b, o + j, none⟩ = some (cellE l j) := by
  have e := h (j / 4) (by omega)
  have d : j = j / 4 * 4 + j % 4 := by omega
  generalize hq : j / 4 = q at *
  rcases (show j % 4 = 0 ∨ j % 4 = 1 ∨ j % 4 = 2 ∨ j % 4 = 3 by omega) with r | r | r | r
  · rw [d, r, Nat.add_zero, cellE_0]; exact e.f
  · rw [d, r, cellE_1, ← Nat.add_assoc]; exact e.l
  · rw [d, r, cellE_2, ← Nat.add_assoc]; exact e.c
  · rw [d, r, cellE_3, ← Nat.add_assoc]; exact e.m
/-- n entries in a row of one's own, in a block from N on -/
def OwE (N : Nat) (w : World) (v : Value) (n : Nat) (l : Nat → En) : Prop := w.ownsRow N 33 4 v n (valE l n)
theorem OwE.eat {N : Nat} {w : World} {g cap n : Nat} {l : Nat → En} (h : OwE N w (.slice (some ⟨g, 0, none⟩) n cap) n l) {q : Nat} (hq : q < n) : EAt w g (q * 4) (l q) := by
  have k : ∀ i, i < 4 → w.cell? ⟨g, q * 4 + i, none⟩ = some (cellE l (q * 4 + i)) := fun i hi => by
    have := World.ownsRow.cellAt h (q * 4 + i) (by omega)
    rw [valE_get l (by omega)] at this
    exact this
  exact ⟨by rw [← cellE_0]; exact k 0 (by omega), by rw [← cellE_1]; exact k 1 (by omega), by rw [← cellE_2]; exact k 2 (by omega), by rw [← cellE_3]; exact k 3 (by omega)⟩
/-- a row that lies in a block from N on, whole: or none -/
structure NwE (N : Nat) (w : World) (a : Option Addr) (n c : Nat) (l : Nat → En) : Prop where
  le : n ≤ c
  max : c ≤ maxLen
  zero : a = none → c = 0
  blk : ∀ d, a = some d → ∃ g, d = ⟨g, 0, none⟩ ∧ N ≤ g ∧ g < w.heap.size ∧ (∀ j, j < n → EAt w g (j * 4) (l j)) ∧ ∃ cur, w.heap[g]? = some (.cells cur 33 (0, 0)) ∧ cur.size = c * 4
  some : 0 < n → a ≠ none
theorem OwE.nw {N : Nat} {w : World} {v : Value} {n : Nat} {l : Nat → En} (h : OwE N w v n l) : ∃ a c, v = .slice a n c ∧ NwE N w a n c l := by
  rcases h.2 with ⟨rfl, rfl⟩ | ⟨g, cap, cur, rfl, hb, hg, h1, h2, h3, _⟩
  · exact ⟨none, 0, rfl, Nat.le_refl _, by unfold maxLen; omega, fun _ => rfl, fun d hd => (by cases hd), fun k => absurd k (by omega)⟩
  · exact ⟨_, cap, rfl, h1, h2, fun k => (by cases k), fun d hd => (by
      cases hd
      exact ⟨g, rfl, hb, (Array.getElem?_eq_some_iff.1 hg).1, fun j hj => OwE.eat h hj, cur, hg, h3⟩), fun _ k => (by cases k)⟩
theorem NwE.row {N : Nat} {w : World} {a : Option Addr} {n c : Nat} {l : Nat → En} (h : NwE N w a n c l) : RowE w a n l := fun hn => by
  cases a with
  | none => exact absurd rfl (h.some hn)
  | some d =>
    obtain ⟨g, rfl, _, h2, h3, _⟩ := h.blk d rfl
    exact ⟨g, 0, rfl, h2, fun j hj => by rw [Nat.zero_add]; exact h3 j hj⟩
theorem NwE.step {N : Nat} {w w' : World} {a : Option Addr} {n c : Nat} {l : Nat → En} (h : NwE N w a n c l) (hb : Below w.heap.size w w') : NwE N w' a n c l :=
  ⟨h.le, h.max, h.zero, fun d hd => by
    obtain ⟨g, rfl, h1, h2, h3, cur, h4, h5⟩ := h.blk d hd
    exact ⟨g, rfl, h1, Nat.lt_of_lt_of_le h2 hb.size, fun j hj => (h3 j hj).step hb h2, cur, (hb.block g h2).trans h4, h5⟩, h.some⟩
theorem NwE.mono {N M : Nat} {w : World} {a : Option Addr} {n c : Nat} {l : Nat → En} (h : NwE N w a n c l) (hM : M ≤ N) : NwE M w a n c l :=
  ⟨h.le, h.max, h.zero, fun d hd => by
    obtain ⟨g, rfl, h1, h2⟩ := h.blk d hd
    exact ⟨g, rfl, by omega, h2⟩, h.some⟩
theorem nwE_nil (N : Nat) (w : World) (l : Nat → En) : NwE N w none 0 0 l := ⟨Nat.le_refl _, by unfold maxLen; omega, fun _ => rfl, fun d hd => (by cases hd), fun k => absurd k (by omega)⟩
theorem infoE : ∃ i, Tryd.prog.info? 33 = some i ∧ i.zero = some (.agg #[.int .i64 0, .int .i64 0, .int .i64 0, .int .i64 0]) ∧ i.size = 4 ∧ i.bytes = 32 :=
  info_parts (by kernel_rfl)
theorem eqE_nil (w : World) (a : Option Addr) (n c n' c' : Nat) : (binOp .eql 22 (.slice a n c) (.slice none n' c')).run Tryd.prog w = .ok (.bool a.isNone) w := Lib.run_eql_slice_nil w _ _ a n c n' c' Tryd.underlying22

set_option maxHeartbeats 1000000 in
theorem cloneE_any (a : Option Addr) (n c : Nat) (l : Nat → En) (w : World) (hm : n ≤ 1048576) (h : RowE w a n l) :
    Calls Tryd.prog 17 #[.slice a n c] w fun e w' => ∃ v, e = .returned v ∧ OwE w.heap.size w' v n l ∧ Below w.heap.size w w' := by
  cases a with
  | none =>
    obtain rfl : n = 0 := by
      rcases Nat.eq_zero_or_pos n with q | q
      · exact q
      · obtain ⟨_, _, e, _⟩ := h q
        cases e
    have q := eqE_nil
    clear h
    go_enter Tryd.func17, Tryd.ntmps17
    go_wp2_with fail
    go_ret
    exact ⟨_, rfl, ⟨by simp [valE], Or.inl ⟨rfl, rfl⟩⟩, Below.refl _ _⟩
  | some ad =>
    have HL : Hid (∀ j u, (valE l n)[j]? = some u → w.cell? (ad.add j) = some u) := fun j u hu => by
      obtain ⟨hj, rfl⟩ := valE_at hu
      obtain ⟨b, o, e, _, hc⟩ := h (by omega)
      cases e
      rw [Addr.add_lit]
      exact eat_cell hc hj
    have q := eqE_nil
    clear h
    obtain ⟨i, i1, i2, i3, i4⟩ := infoE
    go_enter Tryd.func17, Tryd.ntmps17
    go_wp2_with (at_builtin; refine wpList_append_own _ rfl _ _ 22 rfl w.heap.size 33 i (.agg #[.int .i64 0, .int .i64 0, .int .i64 0, .int .i64 0]) 4 32 Tryd.underlying22 i1 i2 i3 i4 rfl (by omega) _ _ _ rfl (World.ownsRow_made w #[] 0 (Nat.le_refl _) (Nat.zero_le _) (by simp)) ad n c (valE l n) rfl ?qc1 ?qc2 ?qc3 ?qc4 ?qc5 ?qc6 ?_)
    case qc1 => rw [valE_length]
    case qc2 =>
      intro j u hj
      have := HL.out j u hj
      exact Lib.cell?_alloc_some _ this
    case qc3 => exact fun u hu => valE_one hu
    case qc4 => unfold maxLen; omega
    case qc5 => omega
    case qc6 => simp
    intro v' w1 hown hgrow hnil
    have HO : Hid (OwE w.heap.size w1 v' n l) := by
      show w1.ownsRow w.heap.size 33 4 v' n (valE l n)
      simpa using hown
    have HB : Hid (Below w.heap.size w w1) := ((Below.refl _ w).alloc (Nat.le_refl _) _).grown hgrow (by simp) (by intro k hk; simp [Value.ownBlock] at hk; omega)
    clear hown hgrow hnil
    go_wp2_with fail
    go_ret
    exact ⟨v', rfl, HO.out, HB.out⟩

/-- two entries are the same -/
def eqE (x y : En) : Bool := (x.f == y.f) && ((x.l == y.l) && ((x.c == y.c) && (x.m == y.m)))
theorem eqE_iff (x y : En) : eqE x y = true ↔ x = y := by
  obtain ⟨f, l, c, m⟩ := x
  obtain ⟨g, k, d, n⟩ := y
  unfold eqE
  simp
theorem eqE_refl (x : En) : eqE x x = true := (eqE_iff x x).2 rfl
def eqR (l m : Nat → En) (n : Nat) : Bool := (List.range n).all fun k => eqE (l k) (m k)
theorem eqR_iff (l m : Nat → En) (n : Nat) : eqR l m n = true ↔ ∀ k : Nat, k < n → l k = m k := by
  unfold eqR
  rw [List.all_eq_true]
  constructor
  · intro h k hk
    have := h k (List.mem_range.2 hk)
    rwa [eqE_iff] at this
  · intro h k hk
    rw [eqE_iff]
    exact h k (List.mem_range.1 hk)
theorem eqR_same {l m : Nat → En} {n : Nat} (h : ∀ k : Nat, k < n → l k = m k) : eqR l m n = true := (eqR_iff l m n).2 h
theorem eqR_no {l m : Nat → En} {n : Nat} (k : Nat) (hk : k < n) (h : eqE (l k) (m k) = false) : eqR l m n = false := by
  rw [Bool.eq_false_iff]
  intro h'
  have := (eqR_iff l m n).1 h' k hk
  rw [this, eqE_refl] at h
  cases h
theorem run_eqE (x y : En) (w : World) : (Op.equalIn 10000 33 (.agg #[.int .i64 x.f, .int .i64 x.l, .int .i64 x.c, .int .i64 x.m]) (.agg #[.int .i64 y.f, .int .i64 y.l, .int .i64 y.c, .int .i64 y.m])).run Tryd.prog w = .ok (eqE x y) w := by
  obtain ⟨f, l, c, m⟩ := x
  obtain ⟨g, k, d, n⟩ := y
  rw [show (10000 : Nat) = 9999 + 1 from rfl, run_equalIn_struct w 9999 _ _ _ (by kernel_rfl) (by kernel_rfl)]
  simp [Op.eqFields, go_sem, eqE]
  by_cases h1 : f = g <;> by_cases h2 : l = k <;> by_cases h3 : c = d <;> by_cases h4 : m = n <;> simp [h1, h2, h3, h4]

set_option maxHeartbeats 1000000 in
theorem equalE_len (a1 a2 : Option Addr) (n1 c1 n2 c2 : Nat) (w : World) (h : n1 ≠ n2) :
    Calls Tryd.prog 14 #[.slice a1 n1 c1, .slice a2 n2 c2] w fun e w' => e = .returned (.bool false) ∧ Below w.heap.size w w' := by
  go_enter Tryd.func14, Tryd.ntmps14
  go_wp2_with fail
  go_ret
  exact ⟨rfl, Below.refl _ _⟩

set_option maxHeartbeats 4000000 in
theorem equalE_any (a1 a2 : Option Addr) (n c1 c2 : Nat) (l m : Nat → En) (w : World) (hn : n ≤ 70368744177664) (h1 : RowE w a1 n l) (h2 : RowE w a2 n m) :
    Calls Tryd.prog 14 #[.slice a1 n c1, .slice a2 n c2] w fun e w' => e = .returned (.bool (eqR l m n)) ∧ Below w.heap.size w w' := by
  have H1 : Hid (RowE w a1 n l) := h1
  have H2 : Hid (RowE w a2 n m) := h2
  have QE : Hid (_) := run_eqE
  clear h1 h2
  go_enter Tryd.func14, Tryd.ntmps14
  go_wp2_with fail
  go_loopg [13] (n + 1) (fun g s wr => ∃ q : Nat, s = .int .i64 q ∧ n - q < g ∧ q ≤ n ∧ Hid (Below w.heap.size w wr) ∧ Hid (∀ k, k < q → l k = m k))
  case atStart => exact ⟨0, rfl, by omega, by omega, Below.refl _ _, fun k hk => absurd hk (by omega)⟩
  case round =>
    obtain ⟨q, rfl, hg, hq, HB, HS⟩ := hrel
    by_cases hlt : q < n
    · have z1 : (q : Int) < (n : Int) := by omega
      have z0 : (0 : Int) ≤ (q : Int) := by omega
      obtain ⟨b1, o1, rfl, l1, k1⟩ := H1.out (by omega)
      obtain ⟨b2, o2, rfl, l2, k2⟩ := H2.out (by omega)
      obtain ⟨x0, x1, x2, x3⟩ := (k1 q hlt).step HB.out l1
      obtain ⟨y0, y1, y2, y3⟩ := (k2 q hlt).step HB.out l2
      have hQ := QE.out (l q) (m q)
      clear k1 k2
      rcases twoB (eqE (l q) (m q)) with e | e
      · have R : Hid (eqR l m n = false) := eqR_no q hlt e
        rw [e] at hQ
        clear e
        go_wp2_with fail
        go_quiet (fail)
        go_wp2_with fail
        go_ret
        exact ⟨by rw [R.out]; rfl, below_dN HB.out _⟩
      · have HS2 : Hid (∀ k, k < q + 1 → l k = m k) := fun k hk => by
          by_cases r : k = q
          · subst r; exact (eqE_iff _ _).1 e
          · exact HS.out k (by omega)
        rw [e] at hQ
        clear e
        go_wp2_with fail
        go_quiet (fail)
        go_wp2_with fail
        go_roundg (n - (q + 1) + 1)
        case measure => omega
        case rel => exact ⟨q + 1, by go_num, by omega, by omega, below_dN HB.out _, HS2.out⟩
    · have z1 : ¬ (q : Int) < (n : Int) := by omega
      obtain rfl : q = n := by omega
      have R : Hid (eqR l m q = true) := eqR_same HS.out
      go_wp2_with fail
      go_ret
      exact ⟨by rw [R.out]; rfl, HB.out⟩

end Go.Proofs.YtkklinjamcfppaaDoor
