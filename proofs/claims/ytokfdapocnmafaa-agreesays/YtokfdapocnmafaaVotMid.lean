/-
  Those of several numbers that are ok (vote.those, and the document's own), and their middle one (vote.Mid, and the document's own).
-/
import Derived.Test.YtokfdapocnmafaaVotRow
import Derived.Test.YtokfdapocnmafaaRMid
namespace Go.Proofs.Ytokfdapocnmafaa
open Go.RowKit
set_option linter.unusedVariables false

/-- the numbers that are ok, of the first k -/
def pick (l : Nat → Int) (ok : Nat → Bool) : Nat → List Int
  | 0 => []
  | k + 1 => pick l ok k ++ (if ok k then [l k] else [])
/-- numbers as values -/
def nums (xs : List Int) : List Value := xs.map (fun x => .int .i32 x)
theorem pick_yes {l : Nat → Int} {ok : Nat → Bool} {k : Nat} (h : ok k = true) : pick l ok (k + 1) = pick l ok k ++ [l k] := by
  show pick l ok k ++ (if ok k then [l k] else []) = _
  rw [h]; rfl
theorem pick_no {l : Nat → Int} {ok : Nat → Bool} {k : Nat} (h : ok k = false) : pick l ok (k + 1) = pick l ok k := by
  show pick l ok k ++ (if ok k then [l k] else []) = _
  rw [h]; exact List.append_nil _
theorem pick_le (l : Nat → Int) (ok : Nat → Bool) (k : Nat) : (pick l ok k).length ≤ k := by
  induction k with
  | zero => exact Nat.le_refl _
  | succ k ih =>
    cases h : ok k
    · rw [pick_no h]; omega
    · rw [pick_yes h, List.length_append]; simp; omega
theorem pick_mem {l : Nat → Int} {ok : Nat → Bool} {k : Nat} {x : Int} (h : x ∈ pick l ok k) : ∃ i, i < k ∧ ok i = true ∧ l i = x := by
  induction k with
  | zero => exact absurd h (by simp [pick])
  | succ k ih =>
    cases e : ok k
    · rw [pick_no e] at h
      obtain ⟨i, h1, h2⟩ := ih h
      exact ⟨i, by omega, h2⟩
    · rw [pick_yes e, List.mem_append] at h
      rcases h with h | h
      · obtain ⟨i, h1, h2⟩ := ih h
        exact ⟨i, by omega, h2⟩
      · exact ⟨k, by omega, e, (List.mem_singleton.1 h).symm⟩
theorem nums_length (xs : List Int) : (nums xs).length = xs.length := by simp [nums]
theorem nums_one {xs : List Int} {u : Value} (h : u ∈ nums xs) : u.oneCell' = true := by
  unfold nums at h
  obtain ⟨t, _, rfl⟩ := List.mem_map.1 h
  rfl
/-- those that are ok, as a row -/
def kept (l : Nat → Int) (ok : Nat → Bool) (n : Nat) : Nat → Int := fun t => (pick l ok n).getD t 0
theorem cnt_kept (p : Int → Bool) (xs : List Int) : cnt p (fun t => xs.getD t 0) xs.length = xs.countP p := by
  have e : (List.range xs.length).map (fun t => xs.getD t 0) = xs := by
    apply List.ext_getElem?
    intro j
    rcases Nat.lt_or_ge j xs.length with q | q
    · rw [List.getElem?_map, List.getElem?_range q]; simp [q]
    · rw [List.getElem?_eq_none (by simpa using q), List.getElem?_eq_none q]
  unfold cnt
  rw [e]
/-- so far: the row of those that are ok among the first k -/
structure Ths (w0 : World) (l : Nat → Int) (ok : Nat → Bool) (k : Nat) (v : Value) (w : World) : Prop where
  own : w.ownsRow w0.heap.size 21 1 v (pick l ok k).length (nums (pick l ok k))
  bel : Below w0.heap.size w0 w
theorem ths_no {w0 w : World} {l : Nat → Int} {ok : Nat → Bool} {k : Nat} {v : Value} (h : Ths w0 l ok k v w) (e : ok k = false) : Ths w0 l ok (k + 1) v w := ⟨by rw [pick_no e]; exact h.own, h.bel⟩
/-- the middle one of those that are ok, or the error: 64 numbers at most, as many bools, one ok at least -/
def MidS (l : Nat → Int) (n : Nat) (ok : Nat → Bool) (k : Nat) (m E : Int) : Prop :=
  (64 < n ∧ E = 2 ∧ m = 0) ∨ (n ≤ 64 ∧ k ≠ n ∧ E = 4 ∧ m = 0) ∨ (n ≤ 64 ∧ k = n ∧ (pick l ok n).length = 0 ∧ E = 7 ∧ m = 0) ∨ (n ≤ 64 ∧ k = n ∧ 0 < (pick l ok n).length ∧ E = 0 ∧ IsMid (kept l ok n) (pick l ok n).length m)
theorem midS_there (l : Nat → Int) (n : Nat) (ok : Nat → Bool) (k : Nat) : ∃ m E, MidS l n ok k m E := by
  rcases Nat.lt_or_ge 64 n with h | h
  · exact ⟨0, 2, Or.inl ⟨h, rfl, rfl⟩⟩
  · by_cases e : k = n
    · rcases Nat.eq_zero_or_pos (pick l ok n).length with q | q
      · exact ⟨0, 7, Or.inr (Or.inr (Or.inl ⟨h, e, q, rfl, rfl⟩))⟩
      · obtain ⟨m, hm⟩ := mid_there (kept l ok n) _ q
        exact ⟨m, 0, Or.inr (Or.inr (Or.inr ⟨h, e, q, rfl, hm⟩))⟩
    · exact ⟨0, 4, Or.inr (Or.inl ⟨h, e, rfl, rfl⟩)⟩
/-- where there is no error it is one of those that are ok -/
theorem MidS.good {l : Nat → Int} {n : Nat} {ok : Nat → Bool} {k : Nat} {m E : Int} (h : MidS l n ok k m E) (h0 : E = 0) : n ≤ 64 ∧ k = n ∧ 0 < (pick l ok n).length ∧ IsMid (kept l ok n) (pick l ok n).length m ∧ ∃ i, i < n ∧ ok i = true ∧ l i = m := by
  rcases h with ⟨_, h, _⟩ | ⟨_, _, h, _⟩ | ⟨_, _, _, h, _⟩ | ⟨h1, h2, h3, _, h4⟩
  · omega
  · omega
  · omega
  · obtain ⟨t, ht, e⟩ := mid_in h4
    refine ⟨h1, h2, h3, h4, pick_mem ?_⟩
    rw [← e]
    unfold kept
    rw [List.getD_eq_getElem?_getD, List.getElem?_eq_getElem ht]
    exact List.getElem_mem ht
theorem MidS.bad {l : Nat → Int} {n : Nat} {ok : Nat → Bool} {k : Nat} {m E : Int} (h : MidS l n ok k m E) (h0 : E ≠ 0) : m = 0 := by
  rcases h with ⟨_, _, h⟩ | ⟨_, _, _, h⟩ | ⟨_, _, _, _, h⟩ | ⟨_, _, _, h, _⟩
  · exact h
  · exact h
  · exact h
  · exact absurd h h0

set_option maxHeartbeats 2000000 in
set_option maxRecDepth 100000 in
theorem those_any (a oa : Option Addr) (n c oc : Nat) (l : Nat → Int) (ok : Nat → Bool) (w : World) (hn : n ≤ 64) (h : R32 w a n l) (ho : RBo w oa n ok) :
    Calls Try.prog 21 #[.slice a n c, .slice oa n oc] w fun e w' => ∃ v, e = .returned v ∧ Ths w l ok n v w' := by
  have HR : Hid (R32 w a n l) := h
  have HO : Hid (RBo w oa n ok) := ho
  clear h ho
  obtain ⟨i, i1, i2, i3, i4⟩ := info32
  go_enter Try.func21, Try.ntmps21
  go_wp2_with fail
  go_loopg [5, 10] (n + 1) (fun g s u wr => ∃ q : Nat, u = .int .i64 q ∧ n - q < g ∧ q ≤ n ∧ Hid (Ths w l ok q s wr))
  case atStart => exact ⟨0, rfl, by omega, by omega, ⟨World.ownsRow_nil _ _ _ _, Below.refl _ _⟩⟩
  case round =>
    obtain ⟨q, rfl, hg, hq, HT⟩ := hrel
    by_cases hlt : q < n
    · have z1 : (q : Int) < (n : Int) := by omega
      obtain ⟨b, off, rfl, hb, hc⟩ := HR.out (by omega)
      obtain ⟨b2, off2, rfl, hb2, hc2⟩ := HO.out (by omega)
      have x0 := (HT.out.bel.cell (p := ⟨b, off + q, none⟩) hb).trans (hc q hlt)
      have x1 := (HT.out.bel.cell (p := ⟨b2, off2 + q, none⟩) hb2).trans (hc2 q hlt)
      clear hc hc2
      cases e : ok q
      · have E1 : Hid (ok q = false) := e
        rw [e] at x1
        clear e
        go_wp2_with fail
        go_roundg (n - (q + 1) + 1)
        case measure => omega
        case rel => exact ⟨q + 1, by go_num, by omega, by omega, ths_no HT.out E1.out⟩
      · have E1 : Hid (ok q = true) := e
        rw [e] at x1
        clear e
        obtain ⟨y, hy⟩ : ∃ y, y = l q := ⟨_, rfl⟩
        rw [← hy] at x0
        have HY : Hid (y = l q) := hy
        clear hy
        have c1 := pick_le l ok q
        go_wp2_with (at_builtin; refine wpList_append_own _ rfl _ _ 37 rfl w.heap.size 21 i (.int .i32 0) 1 4 Try.underlying37 i1 i2 i3 i4 rfl (by omega) _ _ _ rfl (HT.out.own.alloc _) ⟨wr.heap.size, 0, none⟩ 1 _ (nums [y]) rfl ?qc1 ?qc2 ?qc3 ?qc4 ?qc5 ?qc6 ?_)
        case qc1 => rfl
        case qc2 =>
          intro k u hk
          rcases k with _ | k
          · obtain rfl : u = _ := (Option.some.inj hk).symm
            first | exact hk | (rw [Addr.add_lit]; go_simp)
          · exact absurd hk (by simp [nums])
        case qc3 => exact fun u hu => nums_one hu
        case qc4 => unfold maxLen; omega
        case qc5 => omega
        case qc6 => have := HT.out.bel.size; simp; omega
        intro v3 w3 hown hgr _
        have L3 : Hid (Ths w l ok (q + 1) v3 w3) := by
          refine ⟨?_, (HT.out.bel.alloc HT.out.bel.size _).grown hgr (by have := HT.out.bel.size; simp; omega) (fun k hk => (HT.out.own.lt k hk).1)⟩
          rw [pick_yes E1.out, List.length_append, ← HY.out]
          unfold nums
          rw [List.map_append]
          exact hown
        clear hown hgr
        go_wp2_with fail
        go_roundg (n - (q + 1) + 1)
        case measure => omega
        case rel => exact ⟨q + 1, by go_num, by omega, by omega, L3⟩
    · have z1 : ¬ (q : Int) < (n : Int) := by omega
      obtain rfl : q = n := by omega
      go_wp2_with fail
      go_ret
      exact ⟨_, rfl, HT.out⟩

set_option maxHeartbeats 1000000 in
theorem mid_any (a oa : Option Addr) (n c k oc : Nat) (l : Nat → Int) (ok : Nat → Bool) (m E : Int) (w : World) (h : R32 w a n l) (ho : RBo w oa k ok) (hM : MidS l n ok k m E) :
    Calls Try.prog 15 #[.slice a n c, .slice oa k oc] w fun e w' => e = .returned (.tuple #[.int .i32 m, .int .i64 E]) ∧ Below w.heap.size w w' := by
  rcases hM with ⟨h1, rfl, rfl⟩ | ⟨h1, h2, rfl, rfl⟩ | ⟨h1, rfl, h3, rfl, rfl⟩ | ⟨h1, rfl, h3, rfl, h4⟩
  · have z0 : (64 : Int) < (n : Int) := by omega
    go_enter Try.func15, Try.ntmps15
    go_wp2_with fail
    go_ret2
    exact ⟨rfl, Below.refl _ _⟩
  · have z0 : ¬ (64 : Int) < (n : Int) := by omega
    have z1 : ((k : Int) != (n : Int)) = true := by simp; omega
    clear h2
    go_enter Try.func15, Try.ntmps15
    go_wp2_with fail
    go_ret2
    exact ⟨rfl, Below.refl _ _⟩
  · have z0 : ¬ (64 : Int) < (k : Int) := by omega
    have C := those_any a oa k c oc l ok w h1 h ho
    clear h ho
    go_enter Try.func15, Try.ntmps15
    go_wp2_with fail
    refine C.mono ?_
    rintro r w1 ⟨v, rfl, ht⟩
    clear C
    have HT : Hid (Ths w l ok k v w1) := ht
    obtain ⟨aa, cc, rfl⟩ : ∃ aa cc, v = .slice aa 0 cc := by
      rcases ht.own.2 with ⟨h, _⟩ | ⟨g, cap, _, h, _⟩
      · exact ⟨_, _, h⟩
      · rw [h3] at h; exact ⟨_, _, h⟩
    clear ht
    go_wp2_with fail
    refine (middle_none aa cc w1).mono ?_
    rintro r w2 ⟨rfl, rfl⟩
    go_wp2_with fail
    go_ret2
    exact ⟨rfl, HT.out.bel⟩
  · have z0 : ¬ (64 : Int) < (k : Int) := by omega
    have C := those_any a oa k c oc l ok w h1 h ho
    clear h ho
    go_enter Try.func15, Try.ntmps15
    go_wp2_with fail
    refine C.mono ?_
    rintro r w1 ⟨v, rfl, ht⟩
    clear C
    have HB : Hid (Below w.heap.size w w1) := ht.bel
    obtain ⟨g, cap, rfl, g1, g2⟩ := ht.own.form h3
    have HC : Hid (∀ t, t < (pick l ok k).length → w1.cell? ⟨g, 0 + t, none⟩ = some (.int .i32 (kept l ok k t))) := fun t hlt => by
      have := ht.own.cellAt t (by omega)
      rw [Nat.zero_add, this]
      unfold nums kept
      rw [List.getElem?_map, List.getElem?_eq_getElem hlt, List.getD_eq_getElem?_getD, List.getElem?_eq_getElem hlt]
      rfl
    clear ht
    have HM : Hid (IsMid (kept l ok k) (pick l ok k).length m) := h4
    have c1 := pick_le l ok k
    clear h4
    generalize (pick l ok k).length = K at *
    go_wp2_with fail
    refine (middle_any g 0 K cap (kept l ok k) w1 h3 (by omega) g2 HC.out).mono ?_
    rintro r w2 ⟨m', rfl, hm', hb2⟩
    obtain rfl : m' = m := mid_one hm' HM.out
    have HB2 : Hid (Below w.heap.size w w2) := HB.out.trans (hb2.mono HB.out.size)
    clear hm' hb2
    go_wp2_with fail
    go_ret2
    exact ⟨rfl, HB2.out⟩

end Go.Proofs.Ytokfdapocnmafaa
