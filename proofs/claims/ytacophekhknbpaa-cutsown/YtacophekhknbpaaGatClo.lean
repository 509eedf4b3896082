/-
  slices.Clone of gates, and of sets.
-/
import Derived.Test.YtacophekhknbpaaGatDua
import Derived.Test.YtacophekhknbpaaSetRow
import Derived.OwnWalk
import Derived.Lib.SliceRun
import Derived.Deep.AppendLies
import Derived.Laws.OwnMore
namespace Go.Proofs.Ytacophekhknbpaa
open Go.RowKit
set_option linter.unusedVariables false

/-- the j-th cell of gates that lie one behind another -/
def cellG (t : Nat → Gt) (j : Nat) : Value := if j % 3 = 0 then .int .i64 (t (j / 3)).k else if j % 3 = 1 then .int .i64 (t (j / 3)).v else .slice (t (j / 3)).a (t (j / 3)).n (t (j / 3)).c
def valG (t : Nat → Gt) (n : Nat) : List Value := (List.range (n * 3)).map (cellG t)
theorem valG_length (t : Nat → Gt) (n : Nat) : (valG t n).length = n * 3 := by simp [valG]
theorem valG_get (t : Nat → Gt) {n j : Nat} (h : j < n * 3) : (valG t n)[j]? = some (cellG t j) := by
  unfold valG
  rw [List.getElem?_map, List.getElem?_range h]
  rfl
theorem valG_at {t : Nat → Gt} {n j : Nat} {u : Value} (h : (valG t n)[j]? = some u) : j < n * 3 ∧ u = cellG t j := by
  have q := (List.getElem?_eq_some_iff.1 h).1
  rw [valG_length] at q
  rw [valG_get t q] at h
  exact ⟨q, by simpa using h.symm⟩
theorem valG_one {t : Nat → Gt} {n : Nat} {u : Value} (h : u ∈ valG t n) : u.oneCell' = true := by
  unfold valG at h
  obtain ⟨j, _, rfl⟩ := List.mem_map.1 h
  unfold cellG
  split
  · rfl
  · split <;> rfl
theorem cellG_0 (t : Nat → Gt) (q : Nat) : cellG t (q * 3) = .int .i64 (t q).k := by
  unfold cellG
  rw [show q * 3 % 3 = 0 by omega, show q * 3 / 3 = q by omega]; rfl
theorem cellG_1 (t : Nat → Gt) (q : Nat) : cellG t (q * 3 + 1) = .int .i64 (t q).v := by
  unfold cellG
  rw [show (q * 3 + 1) % 3 = 1 by omega, show (q * 3 + 1) / 3 = q by omega]; rfl
theorem cellG_2 (t : Nat → Gt) (q : Nat) : cellG t (q * 3 + 2) = .slice (t q).a (t q).n (t q).c := by
  unfold cellG
  rw [show (q * 3 + 2) % 3 = 2 by omega, show (q * 3 + 2) / 3 = q by omega]; rfl
theorem gat_cell {w : World} {b o n : Nat} {t : Nat → Gt} (h : ∀ j, j < n → GAt w b (o + j * 3) (t j)) {j : Nat} (hj : j < n * 3) : w.cell? ⟨b, o + j, none⟩ = some (cellG t j) := by
  have e := h (j / 3) (by omega)
  have d : j = j / 3 * 3 + j % 3 := by omega
  generalize hq : j / 3 = q at *
  rcases (show j % 3 = 0 ∨ j % 3 = 1 ∨ j % 3 = 2 by omega) with r | r | r
  · rw [d, r, Nat.add_zero, cellG_0]; exact e.hk
  · rw [d, r, cellG_1, ← Nat.add_assoc]; exact e.hv
  · rw [d, r, cellG_2, ← Nat.add_assoc]; exact e.hs
theorem eqGs_nil (w : World) (a : Option Addr) (n c n' c' : Nat) : (binOp .eql 22 (.slice a n c) (.slice none n' c')).run Try.prog w = .ok (.bool a.isNone) w := Lib.run_eql_slice_nil w _ _ a n c n' c' Try.underlying22
theorem eqUs_nil (w : World) (a : Option Addr) (n c n' c' : Nat) : (binOp .eql 24 (.slice a n c) (.slice none n' c')).run Try.prog w = .ok (.bool a.isNone) w := Lib.run_eql_slice_nil w _ _ a n c n' c' Try.underlying24

set_option maxHeartbeats 1000000 in
theorem cloneG_any (a : Option Addr) (n c : Nat) (t : Nat → Gt) (w : World) (hm : n * 40 ≤ 140737488351232) (h : RowG w a n t) :
    Calls Try.prog 27 #[.slice a n c] w fun e w' => ∃ v, e = .returned v ∧ w'.ownsRow w.heap.size 41 3 v n (valG t n) ∧ Below w.heap.size w w' := by
  cases a with
  | none =>
    obtain rfl : n = 0 := by
      rcases Nat.eq_zero_or_pos n with q | q
      · exact q
      · obtain ⟨_, _, e, _⟩ := h.row q
        cases e
    have q := eqGs_nil
    clear h
    go_enter Try.func27, Try.ntmps27
    go_wp2_with fail
    go_ret
    exact ⟨_, rfl, ⟨by simp [valG], Or.inl ⟨rfl, rfl⟩⟩, Below.refl _ _⟩
  | some ad =>
    have HL : Hid (∀ j u, (valG t n)[j]? = some u → w.cell? (ad.add j) = some u) := fun j u hu => by
      obtain ⟨hj, rfl⟩ := valG_at hu
      obtain ⟨b, o, e, _, hc⟩ := h.row (by omega)
      cases e
      rw [Addr.add_lit]
      exact gat_cell hc hj
    have q := eqGs_nil
    clear h
    obtain ⟨i, i1, i2, i3, i4⟩ := infoGate
    go_enter Try.func27, Try.ntmps27
    go_wp2_with (at_builtin; refine wpList_append_own _ rfl _ _ 22 rfl w.heap.size 41 i (.agg #[.int .i64 0, .int .i64 0, .slice none 0 0]) 3 40 Try.underlying22 i1 i2 i3 i4 rfl (by omega) _ _ _ rfl (World.ownsRow_made w #[] 0 (Nat.le_refl _) (Nat.zero_le _) (by simp)) ad n c (valG t n) rfl ?qc1 ?qc2 ?qc3 ?qc4 ?qc5 ?qc6 ?_)
    case qc1 => exact valG_length t n
    case qc2 =>
      intro j u hj
      have := HL.out j u hj
      exact Lib.cell?_alloc_some _ this
    case qc3 => exact fun u hu => valG_one hu
    case qc4 => unfold maxLen; omega
    case qc5 => omega
    case qc6 => simp
    intro v' w1 hown hgrow hnil
    have HO : Hid (w1.ownsRow w.heap.size 41 3 v' n (valG t n)) := by
      show w1.ownsRow w.heap.size 41 3 v' n (valG t n)
      simpa using hown
    have HB : Hid (Below w.heap.size w w1) := ((Below.refl _ w).alloc (Nat.le_refl _) _).grown hgrow (by simp) (by intro k hk; simp [Value.ownBlock] at hk; omega)
    clear hown hgrow hnil
    go_wp2_with fail
    go_ret
    exact ⟨v', rfl, HO.out, HB.out⟩

theorem own_rowU {w w' : World} {l : List Nat} {v : Value} (h : w'.ownsRow w.heap.size 23 1 v l.length (numsU l)) (hb : Below w.heap.size w w') : RowU w l v w' := OwL.row ⟨h, hb⟩
set_option maxHeartbeats 1000000 in
theorem cloneU_any (a : Option Addr) (c : Nat) (l : List Nat) (w : World) (hm : l.length ≤ 256) (h : RS w a l.length (fun j => l.getD j 0)) :
    Calls Try.prog 32 #[.slice a l.length c] w fun e w' => ∃ v, e = .returned v ∧ RowU w l v w' := by
  cases a with
  | none =>
    have h0 : l.length = 0 := by
      rcases Nat.eq_zero_or_pos l.length with q | q
      · exact q
      · obtain ⟨_, _, e, _⟩ := h q
        cases e
    have q := eqUs_nil
    obtain rfl : l = [] := List.eq_nil_of_length_eq_zero h0
    clear h
    go_enter Try.func32, Try.ntmps32
    go_wp2_with fail
    go_ret
    exact ⟨_, rfl, none, 0, rfl, Nat.le_refl _, fun hn => absurd hn (by simp), Below.refl _ _⟩
  | some ad =>
    have HL : Hid (∀ j u, (numsU l)[j]? = some u → w.cell? (ad.add j) = some u) := fun j u hu => by
      have hj : j < l.length := by
        have := (List.getElem?_eq_some_iff.1 hu).1
        unfold numsU at this
        rwa [List.length_map] at this
      obtain ⟨b, o, e, _, hc⟩ := h (by omega)
      cases e
      rw [Addr.add_lit, hc j hj]
      unfold numsU at hu
      rw [List.getElem?_map, List.getElem?_eq_getElem hj] at hu
      rw [← hu]
      show some (Value.int .u16 ((l.getD j 0 : Nat) : Int)) = some (Value.int .u16 ((l[j] : Nat) : Int))
      rw [show l.getD j 0 = l[j] by rw [List.getD_eq_getElem?_getD, List.getElem?_eq_getElem hj]; rfl]
    have q := eqUs_nil
    clear h
    obtain ⟨i, i1, i2, i3, i4⟩ := infoU16
    go_enter Try.func32, Try.ntmps32
    go_wp2_with (at_builtin; refine wpList_append_own _ rfl _ _ 24 rfl w.heap.size 23 i (.int .u16 0) 1 2 Try.underlying24 i1 i2 i3 i4 rfl (by omega) _ _ _ rfl (World.ownsRow_made w #[] 0 (Nat.le_refl _) (Nat.zero_le _) (by simp)) ad l.length c (numsU l) rfl ?qc1 ?qc2 ?qc3 ?qc4 ?qc5 ?qc6 ?_)
    case qc1 => unfold numsU; rw [List.length_map]; omega
    case qc2 =>
      intro j u hj
      have := HL.out j u hj
      exact Lib.cell?_alloc_some _ this
    case qc3 => exact fun u hu => numsU_one hu
    case qc4 => unfold maxLen; omega
    case qc5 => omega
    case qc6 => simp
    intro v' w1 hown hgrow hnil
    have HO : Hid (w1.ownsRow w.heap.size 23 1 v' l.length (numsU l)) := by
      show w1.ownsRow w.heap.size 23 1 v' l.length (numsU l)
      simpa using hown
    have HB : Hid (Below w.heap.size w w1) := ((Below.refl _ w).alloc (Nat.le_refl _) _).grown hgrow (by simp) (by intro k hk; simp [Value.ownBlock] at hk; omega)
    clear hown hgrow hnil
    go_wp2_with fail
    go_ret
    exact ⟨v', rfl, own_rowU HO.out HB.out⟩

end Go.Proofs.Ytacophekhknbpaa
