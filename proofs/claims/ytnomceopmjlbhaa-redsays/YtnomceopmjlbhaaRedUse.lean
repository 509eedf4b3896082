/-
  Contracts of red.Usable and the document's Usable: a new row of the lanes' numbers. Of the memory that was there nothing turns.
-/
import Derived.Test.YtnomceopmjlbhaaRedArm
import Derived.Deep.Onto
import Derived.Deep.AppendLies
import Derived.Laws.OwnMore
namespace Go.Proofs.Ytnomceopmjlbhaa
open Go.RowKit
set_option linter.unusedVariables false

theorem boolTwo (b : Bool) : b = false ∨ b = true := by cases b <;> simp
/-- numbers of 64 bits as values -/
def numsI (xs : List Nat) : List Value := xs.map (fun x => .int .i64 ((x : Nat) : Int))
theorem numsI_length (xs : List Nat) : (numsI xs).length = xs.length := by simp [numsI]
theorem numsI_one {xs : List Nat} {u : Value} (h : u ∈ numsI xs) : u.oneCell' = true := by
  unfold numsI at h
  obtain ⟨t, _, rfl⟩ := List.mem_map.1 h
  rfl
/-- the numbers of the first j lanes of which u says so -/
def usL (u : Nat → Bool) : Nat → List Nat
  | 0 => []
  | j + 1 => usL u j ++ (if u j then [j] else [])
theorem usL_yes {u : Nat → Bool} {k : Nat} (h : u k = true) : usL u (k + 1) = usL u k ++ [k] := by
  show usL u k ++ (if u k then [k] else []) = _
  rw [h]; rfl
theorem usL_no {u : Nat → Bool} {k : Nat} (h : u k = false) : usL u (k + 1) = usL u k := by
  show usL u k ++ (if u k then [k] else []) = _
  rw [h]; exact List.append_nil _
theorem usL_le (u : Nat → Bool) (k : Nat) : (usL u k).length ≤ k := by
  induction k with
  | zero => exact Nat.le_refl _
  | succ k ih =>
    cases h : u k
    · rw [usL_no h]; omega
    · rw [usL_yes h, List.length_append]; simp; omega
/-- how many there are ahead of lane k; the q-th of those there are -/
def usN (u : Nat → Bool) (k : Nat) : Nat := (usL u k).length
def usA (u : Nat → Bool) (q : Nat) : Nat := (usL u 4).getD q 0
theorem usN_yes {u : Nat → Bool} {k : Nat} (h : u k = true) : usN u (k + 1) = usN u k + 1 := by
  unfold usN
  rw [usL_yes h, List.length_append]
  rfl
theorem usN_no {u : Nat → Bool} {k : Nat} (h : u k = false) : usN u (k + 1) = usN u k := by
  unfold usN
  rw [usL_no h]
theorem usN_mono (u : Nat → Bool) {i k : Nat} (h : i ≤ k) : usN u i ≤ usN u k := by
  induction k with
  | zero =>
    obtain rfl : i = 0 := by omega
    exact Nat.le_refl _
  | succ k ih =>
    by_cases e : i = k + 1
    · rw [e]; exact Nat.le_refl _
    · have := ih (by omega)
      cases q : u k
      · rw [usN_no q]; exact this
      · rw [usN_yes q]; omega
theorem us_at (u : Nat → Bool) (m q : Nat) (hq : q < usN u m) : (usL u m).getD q 0 < m ∧ u ((usL u m).getD q 0) = true ∧ usN u ((usL u m).getD q 0) = q := by
  induction m with
  | zero => exact absurd hq (Nat.not_lt_zero _)
  | succ m ih =>
    cases e : u m
    · rw [usN_no e] at hq
      obtain ⟨h1, h2, h3⟩ := ih hq
      rw [usL_no e]
      exact ⟨by omega, h2, h3⟩
    · rw [usN_yes e] at hq
      rw [usL_yes e]
      by_cases h : q < usN u m
      · obtain ⟨h1, h2, h3⟩ := ih h
        have e1 : (usL u m ++ [m]).getD q 0 = (usL u m).getD q 0 := by
          rw [List.getD_eq_getElem?_getD, List.getD_eq_getElem?_getD, List.getElem?_append_left h]
        rw [e1]
        exact ⟨by omega, h2, h3⟩
      · have e2 : q = usN u m := by omega
        have e1 : (usL u m ++ [m]).getD q 0 = m := by
          rw [List.getD_eq_getElem?_getD, List.getElem?_append_right (by unfold usN at h; omega)]
          unfold usN at e2
          rw [e2, Nat.sub_self]
          rfl
        rw [e1]
        exact ⟨by omega, e, e2.symm⟩
theorem usA_at (u : Nat → Bool) {q : Nat} (hq : q < usN u 4) : usA u q < 4 ∧ u (usA u q) = true ∧ usN u (usA u q) = q := us_at u 4 q hq
/-- no two have the same place -/
theorem us_one {u : Nat → Bool} {i k : Nat} (hi : u i = true) (hk : u k = true) (h : usN u i = usN u k) : i = k := by
  rcases Nat.lt_trichotomy i k with q | q | q
  · have := usN_mono u (i := i + 1) (k := k) q
    rw [usN_yes hi] at this
    omega
  · exact q
  · have := usN_mono u (i := k + 1) (k := i) q
    rw [usN_yes hk] at this
    omega
theorem us_lt {u : Nat → Bool} {k : Nat} (hk : u k = true) (h : k < 4) : usN u k < usN u 4 := by
  have := usN_mono u (i := k + 1) (k := 4) h
  rw [usN_yes hk] at this
  omega
/-- so far: the row of those among the first k -/
structure Us (w0 : World) (u : Nat → Bool) (k : Nat) (v : Value) (w : World) : Prop where
  own : w.ownsRow w0.heap.size 3 1 v (usL u k).length (numsI (usL u k))
  bel : Below w0.heap.size w0 w
theorem us_no {w0 w : World} {u : Nat → Bool} {k : Nat} {v : Value} (h : Us w0 u k v w) (e : u k = false) : Us w0 u (k + 1) v w := ⟨by rw [usL_no e]; exact h.own, h.bel⟩
theorem Us.alloc {w0 w : World} {u : Nat → Bool} {k : Nat} {v : Value} (h : Us w0 u k v w) (x : Obj) : Us w0 u k v (w.alloc x) := ⟨h.own.alloc x, h.bel.alloc h.bel.size x⟩
/-- numbers that lie in a block that was made behind the N-th, or none -/
def RB (N : Nat) (W : World) (a : Option Addr) (n : Nat) (U : Nat → Nat) : Prop := 0 < n → ∃ b, a = some ⟨b, 0, none⟩ ∧ N ≤ b ∧ b < W.heap.size ∧ ∀ q, q < n → W.cell? ⟨b, q, none⟩ = some (.int .i64 ((U q : Nat) : Int))
theorem RB.ri {N : Nat} {W : World} {a : Option Addr} {n : Nat} {U : Nat → Nat} (h : RB N W a n U) : RI W a n U := fun hn => by
  obtain ⟨b, rfl, h1, h2, h3⟩ := h hn
  exact ⟨b, 0, rfl, h2, fun q hq => by rw [Nat.zero_add]; exact h3 q hq⟩
theorem RB.step {N : Nat} {W W' : World} {a : Option Addr} {n : Nat} {U : Nat → Nat} (h : RB N W a n U) (hb : Below W.heap.size W W') : RB N W' a n U := fun hn => by
  obtain ⟨b, rfl, h1, h2, h3⟩ := h hn
  exact ⟨b, rfl, h1, Nat.lt_of_lt_of_le h2 hb.size, fun q hq => (hb.cell (p := ⟨b, q, none⟩) h2).trans (h3 q hq)⟩
theorem RB.other {N : Nat} {W : World} {a : Option Addr} {n : Nat} {U : Nat → Nat} (h : RB N W a n U) {c j : Nat} (hc : c < N) (v : Value) : RB N (W.setCell ⟨c, j, none⟩ v) a n U := fun hn => by
  obtain ⟨b, rfl, h1, h2, h3⟩ := h hn
  refine ⟨b, rfl, h1, by simp [World.setCell]; exact h2, fun q hq => ?_⟩
  rw [World.cell?_setCell_other _ _ _ _ (by simp <;> omega)]
  exact h3 q hq
/-- what a call tells: a new row of numbers, or none -/
def Row (w : World) (u : Nat → Bool) (e : Ending) (w' : World) : Prop := ∃ a c, e = .returned (.slice a (usN u 4) c) ∧ RB w.heap.size w' a (usN u 4) (usA u) ∧ Below w.heap.size w w'
theorem Us.row {w w0 W : World} {u : Nat → Bool} {v : Value} (h : Us w0 u 4 v W) (hb : Below w.heap.size w w0) : Row w u (.returned v) W := by
  have hB : Below w.heap.size w W := below_seq hb h.bel
  rcases Nat.eq_zero_or_pos (usN u 4) with q | q
  · have ho := h.own
    rw [show (usL u 4).length = 0 from q] at ho
    rcases ho.2 with ⟨rfl, _⟩ | ⟨g, cap, _, rfl, _⟩
    · exact ⟨none, 0, by rw [q], fun hn => absurd hn (by omega), hB⟩
    · exact ⟨_, cap, by rw [q], fun hn => absurd hn (by omega), hB⟩
  · obtain ⟨g, cap, rfl, h1, h2⟩ := h.own.form q
    refine ⟨_, cap, rfl, fun _ => ⟨g, rfl, Nat.le_trans hb.size (h.own.lt g rfl).1, (h.own.lt g rfl).2, fun j hj => ?_⟩, hB⟩
    have := h.own.cellAt j (by rw [Nat.mul_one]; exact hj)
    rw [this]
    unfold numsI usA
    rw [List.getElem?_map, List.getD_eq_getElem?_getD, List.getElem?_eq_getElem hj]
    rfl
theorem infoInt : ∃ i, Try.prog.info? 3 = some i ∧ i.zero = some (.int .i64 0) ∧ i.size = 1 ∧ i.bytes = 8 := by
  have h : (Try.prog.info? 3).map (fun i => (i.zero, i.size, i.bytes)) = some (some (.int .i64 0), 1, 8) := by kernel_rfl
  cases hi : Try.prog.info? 3 with
  | none => rw [hi] at h; simp at h
  | some i => rw [hi] at h; simp at h; exact ⟨i, rfl, h.1, h.2.1, h.2.2⟩

set_option maxHeartbeats 8000000 in
set_option maxRecDepth 100000 in
theorem rusable_core (t : Nat → St) (o u : Nat → Bool) (w : World) (HC : Hid (∀ j, j < 4 → ((!(t j).f) = false ∧ u j = false) ∨ ((!(t j).f) = true ∧ u j = o j))) :
    Calls Try.prog 13 #[.agg #[.int .i64 (t 0).m, .bool (t 0).f, .int .i64 (t 0).n, .int .i64 (t 1).m, .bool (t 1).f, .int .i64 (t 1).n, .int .i64 (t 2).m, .bool (t 2).f, .int .i64 (t 2).n, .int .i64 (t 3).m, .bool (t 3).f, .int .i64 (t 3).n], .agg #[.bool (o 0), .bool (o 1), .bool (o 2), .bool (o 3)]] w fun e w' => Row w u e w' := by
  have B0' := bxs_two w #[.int .i64 (t 0).m, .bool (t 0).f, .int .i64 (t 0).n, .int .i64 (t 1).m, .bool (t 1).f, .int .i64 (t 1).n, .int .i64 (t 2).m, .bool (t 2).f, .int .i64 (t 2).n, .int .i64 (t 3).m, .bool (t 3).f, .int .i64 (t 3).n] #[.bool (o 0), .bool (o 1), .bool (o 2), .bool (o 3)] 25 26
  obtain ⟨W0, hW0⟩ : ∃ W0, W0 = ((w.alloc (.cells #[.int .i64 (t 0).m, .bool (t 0).f, .int .i64 (t 0).n, .int .i64 (t 1).m, .bool (t 1).f, .int .i64 (t 1).n, .int .i64 (t 2).m, .bool (t 2).f, .int .i64 (t 2).n, .int .i64 (t 3).m, .bool (t 3).f, .int .i64 (t 3).n] 25)).alloc (.cells #[.bool (o 0), .bool (o 1), .bool (o 2), .bool (o 3)] 26)) := ⟨_, rfl⟩
  rw [← hW0] at B0'
  have B0 : Hid (_) := B0'
  have HW : Hid (_) := hW0.symm
  clear B0' hW0
  obtain ⟨i, i1, i2, i3, i4⟩ := infoInt
  obtain ⟨x0, x1, x2, x3⟩ := ixT t
  go_enter Try.func13, Try.ntmps13
  go_wp2_with fail
  rw [HW.out]
  clear HW
  go_loopg [5, 9] (5) (fun g v s wr => ∃ j : Nat, s = .int .i64 j ∧ 4 - j < g ∧ j ≤ 4 ∧ Hid (Us W0 u j v wr))
  case atStart => exact ⟨0, rfl, by omega, by omega, ⟨World.ownsRow_nil _ _ _ _, Below.refl _ _⟩⟩
  case round =>
    obtain ⟨j, rfl, hg, hj, HT⟩ := hrel
    by_cases hlt : j < 4
    · obtain rfl | rfl | rfl | rfl := cases4 hlt
      · have HB : Hid (_) := B0.out.step HT.out.bel
        rcases HC.out 0 (by omega) with ⟨hf, hu⟩ | ⟨hf, hu⟩
        · have HU : Hid (_) := hu
          clear hu
          go_wp2_with fail
          go_roundg (4 - (0 + 1) + 1)
          case measure => omega
          case rel => exact ⟨1, rfl, by omega, by omega, us_no (HT.out.alloc _) HU.out⟩
        · skip
          have dl := (HB.out.box 1 _ _ rfl).lt
          have d0 := (HB.out.box 1 _ _ rfl).cell 0 _ rfl
          have d1 := (HB.out.box 1 _ _ rfl).cell 1 _ rfl
          have d2 := (HB.out.box 1 _ _ rfl).cell 2 _ rfl
          have d3 := (HB.out.box 1 _ _ rfl).cell 3 _ rfl
          rcases boolTwo (o 0) with ho | ho
          · rw [ho] at hu d0
            have HU : Hid (_) := hu
            clear hu ho
            go_wp2_with fail
            go_roundg (4 - (0 + 1) + 1)
            case measure => omega
            case rel => exact ⟨1, rfl, by omega, by omega, us_no (HT.out.alloc _) HU.out⟩
          · rw [ho] at hu d0
            have HU : Hid (_) := hu
            clear hu ho
            have c1 := usL_le u 0
            go_wp2_with (at_builtin; refine wpList_append_own _ rfl _ _ 37 rfl W0.heap.size 3 i (.int .i64 0) 1 8 Try.underlying37 i1 i2 i3 i4 rfl (by omega) _ _ _ rfl ((HT.out.own.alloc _).alloc _) ⟨wr.heap.size + 1, 0, none⟩ 1 _ (numsI [0]) rfl ?qc10 ?qc20 ?qc30 ?qc40 ?qc50 ?qc60 ?_)
            case qc10 => rfl
            case qc20 =>
              intro k v hk
              rcases k with _ | k
              · obtain rfl : v = _ := (Option.some.inj hk).symm
                first | exact hk | (rw [Addr.add_lit]; go_simp)
              · exact absurd hk (by simp [numsI])
            case qc30 => exact fun v hv => numsI_one hv
            case qc40 => unfold maxLen; omega
            case qc50 => omega
            case qc60 => have := HT.out.bel.size; simp; omega
            intro v3 w3 hown hgr _
            have L3 : Hid (Us W0 u (0 + 1) v3 w3) := by
              refine ⟨?_, ((HT.out.bel.alloc HT.out.bel.size _).alloc (by have := HT.out.bel.size; simp; omega) _).grown hgr (by have := HT.out.bel.size; simp; omega) (fun k hk => (HT.out.own.lt k hk).1)⟩
              rw [usL_yes HU.out, List.length_append]
              unfold numsI
              rw [List.map_append]
              exact hown
            clear hown hgr
            go_wp2_with fail
            go_roundg (4 - (0 + 1) + 1)
            case measure => omega
            case rel => exact ⟨1, rfl, by omega, by omega, L3⟩
      · have HB : Hid (_) := B0.out.step HT.out.bel
        rcases HC.out 1 (by omega) with ⟨hf, hu⟩ | ⟨hf, hu⟩
        · have HU : Hid (_) := hu
          clear hu
          go_wp2_with fail
          go_roundg (4 - (1 + 1) + 1)
          case measure => omega
          case rel => exact ⟨2, rfl, by omega, by omega, us_no (HT.out.alloc _) HU.out⟩
        · skip
          have dl := (HB.out.box 1 _ _ rfl).lt
          have d0 := (HB.out.box 1 _ _ rfl).cell 0 _ rfl
          have d1 := (HB.out.box 1 _ _ rfl).cell 1 _ rfl
          have d2 := (HB.out.box 1 _ _ rfl).cell 2 _ rfl
          have d3 := (HB.out.box 1 _ _ rfl).cell 3 _ rfl
          rcases boolTwo (o 1) with ho | ho
          · rw [ho] at hu d1
            have HU : Hid (_) := hu
            clear hu ho
            go_wp2_with fail
            go_roundg (4 - (1 + 1) + 1)
            case measure => omega
            case rel => exact ⟨2, rfl, by omega, by omega, us_no (HT.out.alloc _) HU.out⟩
          · rw [ho] at hu d1
            have HU : Hid (_) := hu
            clear hu ho
            have c1 := usL_le u 1
            go_wp2_with (at_builtin; refine wpList_append_own _ rfl _ _ 37 rfl W0.heap.size 3 i (.int .i64 0) 1 8 Try.underlying37 i1 i2 i3 i4 rfl (by omega) _ _ _ rfl ((HT.out.own.alloc _).alloc _) ⟨wr.heap.size + 1, 0, none⟩ 1 _ (numsI [1]) rfl ?qc11 ?qc21 ?qc31 ?qc41 ?qc51 ?qc61 ?_)
            case qc11 => rfl
            case qc21 =>
              intro k v hk
              rcases k with _ | k
              · obtain rfl : v = _ := (Option.some.inj hk).symm
                first | exact hk | (rw [Addr.add_lit]; go_simp)
              · exact absurd hk (by simp [numsI])
            case qc31 => exact fun v hv => numsI_one hv
            case qc41 => unfold maxLen; omega
            case qc51 => omega
            case qc61 => have := HT.out.bel.size; simp; omega
            intro v3 w3 hown hgr _
            have L3 : Hid (Us W0 u (1 + 1) v3 w3) := by
              refine ⟨?_, ((HT.out.bel.alloc HT.out.bel.size _).alloc (by have := HT.out.bel.size; simp; omega) _).grown hgr (by have := HT.out.bel.size; simp; omega) (fun k hk => (HT.out.own.lt k hk).1)⟩
              rw [usL_yes HU.out, List.length_append]
              unfold numsI
              rw [List.map_append]
              exact hown
            clear hown hgr
            go_wp2_with fail
            go_roundg (4 - (1 + 1) + 1)
            case measure => omega
            case rel => exact ⟨2, rfl, by omega, by omega, L3⟩
      · have HB : Hid (_) := B0.out.step HT.out.bel
        rcases HC.out 2 (by omega) with ⟨hf, hu⟩ | ⟨hf, hu⟩
        · have HU : Hid (_) := hu
          clear hu
          go_wp2_with fail
          go_roundg (4 - (2 + 1) + 1)
          case measure => omega
          case rel => exact ⟨3, rfl, by omega, by omega, us_no (HT.out.alloc _) HU.out⟩
        · skip
          have dl := (HB.out.box 1 _ _ rfl).lt
          have d0 := (HB.out.box 1 _ _ rfl).cell 0 _ rfl
          have d1 := (HB.out.box 1 _ _ rfl).cell 1 _ rfl
          have d2 := (HB.out.box 1 _ _ rfl).cell 2 _ rfl
          have d3 := (HB.out.box 1 _ _ rfl).cell 3 _ rfl
          rcases boolTwo (o 2) with ho | ho
          · rw [ho] at hu d2
            have HU : Hid (_) := hu
            clear hu ho
            go_wp2_with fail
            go_roundg (4 - (2 + 1) + 1)
            case measure => omega
            case rel => exact ⟨3, rfl, by omega, by omega, us_no (HT.out.alloc _) HU.out⟩
          · rw [ho] at hu d2
            have HU : Hid (_) := hu
            clear hu ho
            have c1 := usL_le u 2
            go_wp2_with (at_builtin; refine wpList_append_own _ rfl _ _ 37 rfl W0.heap.size 3 i (.int .i64 0) 1 8 Try.underlying37 i1 i2 i3 i4 rfl (by omega) _ _ _ rfl ((HT.out.own.alloc _).alloc _) ⟨wr.heap.size + 1, 0, none⟩ 1 _ (numsI [2]) rfl ?qc12 ?qc22 ?qc32 ?qc42 ?qc52 ?qc62 ?_)
            case qc12 => rfl
            case qc22 =>
              intro k v hk
              rcases k with _ | k
              · obtain rfl : v = _ := (Option.some.inj hk).symm
                first | exact hk | (rw [Addr.add_lit]; go_simp)
              · exact absurd hk (by simp [numsI])
            case qc32 => exact fun v hv => numsI_one hv
            case qc42 => unfold maxLen; omega
            case qc52 => omega
            case qc62 => have := HT.out.bel.size; simp; omega
            intro v3 w3 hown hgr _
            have L3 : Hid (Us W0 u (2 + 1) v3 w3) := by
              refine ⟨?_, ((HT.out.bel.alloc HT.out.bel.size _).alloc (by have := HT.out.bel.size; simp; omega) _).grown hgr (by have := HT.out.bel.size; simp; omega) (fun k hk => (HT.out.own.lt k hk).1)⟩
              rw [usL_yes HU.out, List.length_append]
              unfold numsI
              rw [List.map_append]
              exact hown
            clear hown hgr
            go_wp2_with fail
            go_roundg (4 - (2 + 1) + 1)
            case measure => omega
            case rel => exact ⟨3, rfl, by omega, by omega, L3⟩
      · have HB : Hid (_) := B0.out.step HT.out.bel
        rcases HC.out 3 (by omega) with ⟨hf, hu⟩ | ⟨hf, hu⟩
        · have HU : Hid (_) := hu
          clear hu
          go_wp2_with fail
          go_roundg (4 - (3 + 1) + 1)
          case measure => omega
          case rel => exact ⟨4, rfl, by omega, by omega, us_no (HT.out.alloc _) HU.out⟩
        · skip
          have dl := (HB.out.box 1 _ _ rfl).lt
          have d0 := (HB.out.box 1 _ _ rfl).cell 0 _ rfl
          have d1 := (HB.out.box 1 _ _ rfl).cell 1 _ rfl
          have d2 := (HB.out.box 1 _ _ rfl).cell 2 _ rfl
          have d3 := (HB.out.box 1 _ _ rfl).cell 3 _ rfl
          rcases boolTwo (o 3) with ho | ho
          · rw [ho] at hu d3
            have HU : Hid (_) := hu
            clear hu ho
            go_wp2_with fail
            go_roundg (4 - (3 + 1) + 1)
            case measure => omega
            case rel => exact ⟨4, rfl, by omega, by omega, us_no (HT.out.alloc _) HU.out⟩
          · rw [ho] at hu d3
            have HU : Hid (_) := hu
            clear hu ho
            have c1 := usL_le u 3
            go_wp2_with (at_builtin; refine wpList_append_own _ rfl _ _ 37 rfl W0.heap.size 3 i (.int .i64 0) 1 8 Try.underlying37 i1 i2 i3 i4 rfl (by omega) _ _ _ rfl ((HT.out.own.alloc _).alloc _) ⟨wr.heap.size + 1, 0, none⟩ 1 _ (numsI [3]) rfl ?qc13 ?qc23 ?qc33 ?qc43 ?qc53 ?qc63 ?_)
            case qc13 => rfl
            case qc23 =>
              intro k v hk
              rcases k with _ | k
              · obtain rfl : v = _ := (Option.some.inj hk).symm
                first | exact hk | (rw [Addr.add_lit]; go_simp)
              · exact absurd hk (by simp [numsI])
            case qc33 => exact fun v hv => numsI_one hv
            case qc43 => unfold maxLen; omega
            case qc53 => omega
            case qc63 => have := HT.out.bel.size; simp; omega
            intro v3 w3 hown hgr _
            have L3 : Hid (Us W0 u (3 + 1) v3 w3) := by
              refine ⟨?_, ((HT.out.bel.alloc HT.out.bel.size _).alloc (by have := HT.out.bel.size; simp; omega) _).grown hgr (by have := HT.out.bel.size; simp; omega) (fun k hk => (HT.out.own.lt k hk).1)⟩
              rw [usL_yes HU.out, List.length_append]
              unfold numsI
              rw [List.map_append]
              exact hown
            clear hown hgr
            go_wp2_with fail
            go_roundg (4 - (3 + 1) + 1)
            case measure => omega
            case rel => exact ⟨4, rfl, by omega, by omega, L3⟩
    · obtain rfl : j = 4 := by omega
      go_wp2_with fail
      go_ret
      exact HT.out.row B0.out.bel

set_option maxHeartbeats 8000000 in
set_option maxRecDepth 100000 in
theorem dusable_core (t : Nat → St) (o u : Nat → Bool) (w : World) (HC : Hid (∀ j, j < 4 → ((!(t j).f) = false ∧ u j = false) ∨ ((!(t j).f) = true ∧ u j = o j))) :
    Calls Try.prog 14 #[.agg #[.int .i64 (t 0).m, .bool (t 0).f, .int .i64 (t 0).n, .int .i64 (t 1).m, .bool (t 1).f, .int .i64 (t 1).n, .int .i64 (t 2).m, .bool (t 2).f, .int .i64 (t 2).n, .int .i64 (t 3).m, .bool (t 3).f, .int .i64 (t 3).n], .agg #[.bool (o 0), .bool (o 1), .bool (o 2), .bool (o 3)]] w fun e w' => Row w u e w' := by
  have B0' := bxs_two w #[.int .i64 (t 0).m, .bool (t 0).f, .int .i64 (t 0).n, .int .i64 (t 1).m, .bool (t 1).f, .int .i64 (t 1).n, .int .i64 (t 2).m, .bool (t 2).f, .int .i64 (t 2).n, .int .i64 (t 3).m, .bool (t 3).f, .int .i64 (t 3).n] #[.bool (o 0), .bool (o 1), .bool (o 2), .bool (o 3)] 25 26
  obtain ⟨W0, hW0⟩ : ∃ W0, W0 = ((w.alloc (.cells #[.int .i64 (t 0).m, .bool (t 0).f, .int .i64 (t 0).n, .int .i64 (t 1).m, .bool (t 1).f, .int .i64 (t 1).n, .int .i64 (t 2).m, .bool (t 2).f, .int .i64 (t 2).n, .int .i64 (t 3).m, .bool (t 3).f, .int .i64 (t 3).n] 25)).alloc (.cells #[.bool (o 0), .bool (o 1), .bool (o 2), .bool (o 3)] 26)) := ⟨_, rfl⟩
  rw [← hW0] at B0'
  have B0 : Hid (_) := B0'
  have HW : Hid (_) := hW0.symm
  clear B0' hW0
  obtain ⟨i, i1, i2, i3, i4⟩ := infoInt
  go_enter Try.func14, Try.ntmps14
  go_wp2_with fail
  rw [HW.out]
  clear HW
  go_loopg [5, 7] (5) (fun g v s wr => ∃ j : Nat, s = .int .i64 j ∧ 4 - j < g ∧ j ≤ 4 ∧ Hid (Us W0 u j v wr))
  case atStart => exact ⟨0, rfl, by omega, by omega, ⟨World.ownsRow_nil _ _ _ _, Below.refl _ _⟩⟩
  case round =>
    obtain ⟨j, rfl, hg, hj, HT⟩ := hrel
    by_cases hlt : j < 4
    · obtain rfl | rfl | rfl | rfl := cases4 hlt
      · have HB : Hid (_) := B0.out.step HT.out.bel
        have cl := (HB.out.box 0 _ _ rfl).lt
        have c0 := (HB.out.box 0 _ _ rfl).cell 0 _ rfl
        have c1 := (HB.out.box 0 _ _ rfl).cell 1 _ rfl
        have c2 := (HB.out.box 0 _ _ rfl).cell 2 _ rfl
        have c3 := (HB.out.box 0 _ _ rfl).cell 3 _ rfl
        have c4 := (HB.out.box 0 _ _ rfl).cell 4 _ rfl
        have c5 := (HB.out.box 0 _ _ rfl).cell 5 _ rfl
        have c6 := (HB.out.box 0 _ _ rfl).cell 6 _ rfl
        have c7 := (HB.out.box 0 _ _ rfl).cell 7 _ rfl
        have c8 := (HB.out.box 0 _ _ rfl).cell 8 _ rfl
        have c9 := (HB.out.box 0 _ _ rfl).cell 9 _ rfl
        have c10 := (HB.out.box 0 _ _ rfl).cell 10 _ rfl
        have c11 := (HB.out.box 0 _ _ rfl).cell 11 _ rfl
        have dl := (HB.out.box 1 _ _ rfl).lt
        have d0 := (HB.out.box 1 _ _ rfl).cell 0 _ rfl
        have d1 := (HB.out.box 1 _ _ rfl).cell 1 _ rfl
        have d2 := (HB.out.box 1 _ _ rfl).cell 2 _ rfl
        have d3 := (HB.out.box 1 _ _ rfl).cell 3 _ rfl
        rcases HC.out 0 (by omega) with ⟨hf, hu⟩ | ⟨hf, hu⟩
        · have HU : Hid (_) := hu
          clear hu
          rcases boolTwo (o 0) with ho | ho
          · rw [ho] at d0
            clear ho
            go_wp2_with fail
            go_roundg (4 - (0 + 1) + 1)
            case measure => omega
            case rel => exact ⟨1, rfl, by omega, by omega, us_no HT.out HU.out⟩
          · rw [ho] at d0
            clear ho
            go_wp2_with fail
            go_roundg (4 - (0 + 1) + 1)
            case measure => omega
            case rel => exact ⟨1, rfl, by omega, by omega, us_no HT.out HU.out⟩
        · skip
          rcases boolTwo (o 0) with ho | ho
          · rw [ho] at hu d0
            have HU : Hid (_) := hu
            clear hu ho
            go_wp2_with fail
            go_roundg (4 - (0 + 1) + 1)
            case measure => omega
            case rel => exact ⟨1, rfl, by omega, by omega, us_no HT.out HU.out⟩
          · rw [ho] at hu d0
            have HU : Hid (_) := hu
            clear hu ho
            have c1 := usL_le u 0
            go_wp2_with (at_builtin; refine wpList_append_own _ rfl _ _ 37 rfl W0.heap.size 3 i (.int .i64 0) 1 8 Try.underlying37 i1 i2 i3 i4 rfl (by omega) _ _ _ rfl (HT.out.own.alloc _) ⟨wr.heap.size, 0, none⟩ 1 _ (numsI [0]) rfl ?qc10 ?qc20 ?qc30 ?qc40 ?qc50 ?qc60 ?_)
            case qc10 => rfl
            case qc20 =>
              intro k v hk
              rcases k with _ | k
              · obtain rfl : v = _ := (Option.some.inj hk).symm
                first | exact hk | (rw [Addr.add_lit]; go_simp)
              · exact absurd hk (by simp [numsI])
            case qc30 => exact fun v hv => numsI_one hv
            case qc40 => unfold maxLen; omega
            case qc50 => omega
            case qc60 => have := HT.out.bel.size; simp; omega
            intro v3 w3 hown hgr _
            have L3 : Hid (Us W0 u (0 + 1) v3 w3) := by
              refine ⟨?_, (HT.out.bel.alloc HT.out.bel.size _).grown hgr (by have := HT.out.bel.size; simp; omega) (fun k hk => (HT.out.own.lt k hk).1)⟩
              rw [usL_yes HU.out, List.length_append]
              unfold numsI
              rw [List.map_append]
              exact hown
            clear hown hgr
            go_wp2_with fail
            go_roundg (4 - (0 + 1) + 1)
            case measure => omega
            case rel => exact ⟨1, rfl, by omega, by omega, L3⟩
      · have HB : Hid (_) := B0.out.step HT.out.bel
        have cl := (HB.out.box 0 _ _ rfl).lt
        have c0 := (HB.out.box 0 _ _ rfl).cell 0 _ rfl
        have c1 := (HB.out.box 0 _ _ rfl).cell 1 _ rfl
        have c2 := (HB.out.box 0 _ _ rfl).cell 2 _ rfl
        have c3 := (HB.out.box 0 _ _ rfl).cell 3 _ rfl
        have c4 := (HB.out.box 0 _ _ rfl).cell 4 _ rfl
        have c5 := (HB.out.box 0 _ _ rfl).cell 5 _ rfl
        have c6 := (HB.out.box 0 _ _ rfl).cell 6 _ rfl
        have c7 := (HB.out.box 0 _ _ rfl).cell 7 _ rfl
        have c8 := (HB.out.box 0 _ _ rfl).cell 8 _ rfl
        have c9 := (HB.out.box 0 _ _ rfl).cell 9 _ rfl
        have c10 := (HB.out.box 0 _ _ rfl).cell 10 _ rfl
        have c11 := (HB.out.box 0 _ _ rfl).cell 11 _ rfl
        have dl := (HB.out.box 1 _ _ rfl).lt
        have d0 := (HB.out.box 1 _ _ rfl).cell 0 _ rfl
        have d1 := (HB.out.box 1 _ _ rfl).cell 1 _ rfl
        have d2 := (HB.out.box 1 _ _ rfl).cell 2 _ rfl
        have d3 := (HB.out.box 1 _ _ rfl).cell 3 _ rfl
        rcases HC.out 1 (by omega) with ⟨hf, hu⟩ | ⟨hf, hu⟩
        · have HU : Hid (_) := hu
          clear hu
          rcases boolTwo (o 1) with ho | ho
          · rw [ho] at d1
            clear ho
            go_wp2_with fail
            go_roundg (4 - (1 + 1) + 1)
            case measure => omega
            case rel => exact ⟨2, rfl, by omega, by omega, us_no HT.out HU.out⟩
          · rw [ho] at d1
            clear ho
            go_wp2_with fail
            go_roundg (4 - (1 + 1) + 1)
            case measure => omega
            case rel => exact ⟨2, rfl, by omega, by omega, us_no HT.out HU.out⟩
        · skip
          rcases boolTwo (o 1) with ho | ho
          · rw [ho] at hu d1
            have HU : Hid (_) := hu
            clear hu ho
            go_wp2_with fail
            go_roundg (4 - (1 + 1) + 1)
            case measure => omega
            case rel => exact ⟨2, rfl, by omega, by omega, us_no HT.out HU.out⟩
          · rw [ho] at hu d1
            have HU : Hid (_) := hu
            clear hu ho
            have c1 := usL_le u 1
            go_wp2_with (at_builtin; refine wpList_append_own _ rfl _ _ 37 rfl W0.heap.size 3 i (.int .i64 0) 1 8 Try.underlying37 i1 i2 i3 i4 rfl (by omega) _ _ _ rfl (HT.out.own.alloc _) ⟨wr.heap.size, 0, none⟩ 1 _ (numsI [1]) rfl ?qc11 ?qc21 ?qc31 ?qc41 ?qc51 ?qc61 ?_)
            case qc11 => rfl
            case qc21 =>
              intro k v hk
              rcases k with _ | k
              · obtain rfl : v = _ := (Option.some.inj hk).symm
                first | exact hk | (rw [Addr.add_lit]; go_simp)
              · exact absurd hk (by simp [numsI])
            case qc31 => exact fun v hv => numsI_one hv
            case qc41 => unfold maxLen; omega
            case qc51 => omega
            case qc61 => have := HT.out.bel.size; simp; omega
            intro v3 w3 hown hgr _
            have L3 : Hid (Us W0 u (1 + 1) v3 w3) := by
              refine ⟨?_, (HT.out.bel.alloc HT.out.bel.size _).grown hgr (by have := HT.out.bel.size; simp; omega) (fun k hk => (HT.out.own.lt k hk).1)⟩
              rw [usL_yes HU.out, List.length_append]
              unfold numsI
              rw [List.map_append]
              exact hown
            clear hown hgr
            go_wp2_with fail
            go_roundg (4 - (1 + 1) + 1)
            case measure => omega
            case rel => exact ⟨2, rfl, by omega, by omega, L3⟩
      · have HB : Hid (_) := B0.out.step HT.out.bel
        have cl := (HB.out.box 0 _ _ rfl).lt
        have c0 := (HB.out.box 0 _ _ rfl).cell 0 _ rfl
        have c1 := (HB.out.box 0 _ _ rfl).cell 1 _ rfl
        have c2 := (HB.out.box 0 _ _ rfl).cell 2 _ rfl
        have c3 := (HB.out.box 0 _ _ rfl).cell 3 _ rfl
        have c4 := (HB.out.box 0 _ _ rfl).cell 4 _ rfl
        have c5 := (HB.out.box 0 _ _ rfl).cell 5 _ rfl
        have c6 := (HB.out.box 0 _ _ rfl).cell 6 _ rfl
        have c7 := (HB.out.box 0 _ _ rfl).cell 7 _ rfl
        have c8 := (HB.out.box 0 _ _ rfl).cell 8 _ rfl
        have c9 := (HB.out.box 0 _ _ rfl).cell 9 _ rfl
        have c10 := (HB.out.box 0 _ _ rfl).cell 10 _ rfl
        have c11 := (HB.out.box 0 _ _ rfl).cell 11 _ rfl
        have dl := (HB.out.box 1 _ _ rfl).lt
        have d0 := (HB.out.box 1 _ _ rfl).cell 0 _ rfl
        have d1 := (HB.out.box 1 _ _ rfl).cell 1 _ rfl
        have d2 := (HB.out.box 1 _ _ rfl).cell 2 _ rfl
        have d3 := (HB.out.box 1 _ _ rfl).cell 3 _ rfl
        rcases HC.out 2 (by omega) with ⟨hf, hu⟩ | ⟨hf, hu⟩
        · have HU : Hid (_) := hu
          clear hu
          rcases boolTwo (o 2) with ho | ho
          · rw [ho] at d2
            clear ho
            go_wp2_with fail
            go_roundg (4 - (2 + 1) + 1)
            case measure => omega
            case rel => exact ⟨3, rfl, by omega, by omega, us_no HT.out HU.out⟩
          · rw [ho] at d2
            clear ho
            go_wp2_with fail
            go_roundg (4 - (2 + 1) + 1)
            case measure => omega
            case rel => exact ⟨3, rfl, by omega, by omega, us_no HT.out HU.out⟩
        · skip
          rcases boolTwo (o 2) with ho | ho
          · rw [ho] at hu d2
            have HU : Hid (_) := hu
            clear hu ho
            go_wp2_with fail
            go_roundg (4 - (2 + 1) + 1)
            case measure => omega
            case rel => exact ⟨3, rfl, by omega, by omega, us_no HT.out HU.out⟩
          · rw [ho] at hu d2
            have HU : Hid (_) := hu
            clear hu ho
            have c1 := usL_le u 2
            go_wp2_with (at_builtin; refine wpList_append_own _ rfl _ _ 37 rfl W0.heap.size 3 i (.int .i64 0) 1 8 Try.underlying37 i1 i2 i3 i4 rfl (by omega) _ _ _ rfl (HT.out.own.alloc _) ⟨wr.heap.size, 0, none⟩ 1 _ (numsI [2]) rfl ?qc12 ?qc22 ?qc32 ?qc42 ?qc52 ?qc62 ?_)
            case qc12 => rfl
            case qc22 =>
              intro k v hk
              rcases k with _ | k
              · obtain rfl : v = _ := (Option.some.inj hk).symm
                first | exact hk | (rw [Addr.add_lit]; go_simp)
              · exact absurd hk (by simp [numsI])
            case qc32 => exact fun v hv => numsI_one hv
            case qc42 => unfold maxLen; omega
            case qc52 => omega
            case qc62 => have := HT.out.bel.size; simp; omega
            intro v3 w3 hown hgr _
            have L3 : Hid (Us W0 u (2 + 1) v3 w3) := by
              refine ⟨?_, (HT.out.bel.alloc HT.out.bel.size _).grown hgr (by have := HT.out.bel.size; simp; omega) (fun k hk => (HT.out.own.lt k hk).1)⟩
              rw [usL_yes HU.out, List.length_append]
              unfold numsI
              rw [List.map_append]
              exact hown
            clear hown hgr
            go_wp2_with fail
            go_roundg (4 - (2 + 1) + 1)
            case measure => omega
            case rel => exact ⟨3, rfl, by omega, by omega, L3⟩
      · have HB : Hid (_) := B0.out.step HT.out.bel
        have cl := (HB.out.box 0 _ _ rfl).lt
        have c0 := (HB.out.box 0 _ _ rfl).cell 0 _ rfl
        have c1 := (HB.out.box 0 _ _ rfl).cell 1 _ rfl
        have c2 := (HB.out.box 0 _ _ rfl).cell 2 _ rfl
        have c3 := (HB.out.box 0 _ _ rfl).cell 3 _ rfl
        have c4 := (HB.out.box 0 _ _ rfl).cell 4 _ rfl
        have c5 := (HB.out.box 0 _ _ rfl).cell 5 _ rfl
        have c6 := (HB.out.box 0 _ _ rfl).cell 6 _ rfl
        have c7 := (HB.out.box 0 _ _ rfl).cell 7 _ rfl
        have c8 := (HB.out.box 0 _ _ rfl).cell 8 _ rfl
        have c9 := (HB.out.box 0 _ _ rfl).cell 9 _ rfl
        have c10 := (HB.out.box 0 _ _ rfl).cell 10 _ rfl
        have c11 := (HB.out.box 0 _ _ rfl).cell 11 _ rfl
        have dl := (HB.out.box 1 _ _ rfl).lt
        have d0 := (HB.out.box 1 _ _ rfl).cell 0 _ rfl
        have d1 := (HB.out.box 1 _ _ rfl).cell 1 _ rfl
        have d2 := (HB.out.box 1 _ _ rfl).cell 2 _ rfl
        have d3 := (HB.out.box 1 _ _ rfl).cell 3 _ rfl
        rcases HC.out 3 (by omega) with ⟨hf, hu⟩ | ⟨hf, hu⟩
        · have HU : Hid (_) := hu
          clear hu
          rcases boolTwo (o 3) with ho | ho
          · rw [ho] at d3
            clear ho
            go_wp2_with fail
            go_roundg (4 - (3 + 1) + 1)
            case measure => omega
            case rel => exact ⟨4, rfl, by omega, by omega, us_no HT.out HU.out⟩
          · rw [ho] at d3
            clear ho
            go_wp2_with fail
            go_roundg (4 - (3 + 1) + 1)
            case measure => omega
            case rel => exact ⟨4, rfl, by omega, by omega, us_no HT.out HU.out⟩
        · skip
          rcases boolTwo (o 3) with ho | ho
          · rw [ho] at hu d3
            have HU : Hid (_) := hu
            clear hu ho
            go_wp2_with fail
            go_roundg (4 - (3 + 1) + 1)
            case measure => omega
            case rel => exact ⟨4, rfl, by omega, by omega, us_no HT.out HU.out⟩
          · rw [ho] at hu d3
            have HU : Hid (_) := hu
            clear hu ho
            have c1 := usL_le u 3
            go_wp2_with (at_builtin; refine wpList_append_own _ rfl _ _ 37 rfl W0.heap.size 3 i (.int .i64 0) 1 8 Try.underlying37 i1 i2 i3 i4 rfl (by omega) _ _ _ rfl (HT.out.own.alloc _) ⟨wr.heap.size, 0, none⟩ 1 _ (numsI [3]) rfl ?qc13 ?qc23 ?qc33 ?qc43 ?qc53 ?qc63 ?_)
            case qc13 => rfl
            case qc23 =>
              intro k v hk
              rcases k with _ | k
              · obtain rfl : v = _ := (Option.some.inj hk).symm
                first | exact hk | (rw [Addr.add_lit]; go_simp)
              · exact absurd hk (by simp [numsI])
            case qc33 => exact fun v hv => numsI_one hv
            case qc43 => unfold maxLen; omega
            case qc53 => omega
            case qc63 => have := HT.out.bel.size; simp; omega
            intro v3 w3 hown hgr _
            have L3 : Hid (Us W0 u (3 + 1) v3 w3) := by
              refine ⟨?_, (HT.out.bel.alloc HT.out.bel.size _).grown hgr (by have := HT.out.bel.size; simp; omega) (fun k hk => (HT.out.own.lt k hk).1)⟩
              rw [usL_yes HU.out, List.length_append]
              unfold numsI
              rw [List.map_append]
              exact hown
            clear hown hgr
            go_wp2_with fail
            go_roundg (4 - (3 + 1) + 1)
            case measure => omega
            case rel => exact ⟨4, rfl, by omega, by omega, L3⟩
    · obtain rfl : j = 4 := by omega
      go_wp2_with fail
      go_ret
      exact HT.out.row B0.out.bel

end Go.Proofs.Ytnomceopmjlbhaa
