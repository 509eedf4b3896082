/-
  Contracts of strings.Split and strings.SplitN as the document's LogRead uses them.
-/
import Derived.Test.YtkklinjamcfppaaDoorSplPlain
import Derived.Test.YtkklinjamcfppaaDoorLay
import Derived.Test.YtkklinjamcfppaaDoorRDigits
namespace Go.Proofs.YtkklinjamcfppaaDoor
open Go.RowKit
set_option linter.unusedVariables false

/-- texts as values -/
def strV (ls : List (List UInt8)) : List Value := ls.map fun x => .string (tx x)
theorem strV_get (ls : List (List UInt8)) {j : Nat} {x : List UInt8} (h : ls[j]? = some x) : (strV ls)[j]? = some (.string (tx x)) := by
  unfold strV
  rw [List.getElem?_map, h]
  rfl
/-- the lines of a text -/
def lnS (s : List UInt8) : List (List UInt8) := cutN 10 (s.count 10) s
theorem cutN_all : ∀ (n : Nat) (s : List UInt8), s.length ≤ n → (lnS s).length = s.count 10 + 1 := by
  intro n
  induction n with
  | zero =>
    intro s h
    have : s = [] := List.eq_nil_of_length_eq_zero (by omega)
    subst this
    rfl
  | succ n ih =>
    intro s h
    unfold lnS
    cases hc : cutB 10 s with
    | none =>
      have h0 : s.count 10 = 0 := List.count_eq_zero.2 (fun k => cutB_none hc 10 k rfl)
      rw [cutN_one _ hc, h0]
      rfl
    | some p =>
      obtain ⟨x, y⟩ := p
      obtain ⟨e, h2⟩ := cutB_some hc
      have hk : s.count 10 = y.count 10 + 1 := by
        rw [e, List.count_append, List.count_cons_self, List.count_eq_zero.2 (fun k => h2 10 k rfl)]
        omega
      rw [hk, cutN_cons _ hc]
      have := ih y (by rw [e, List.length_append, List.length_cons] at h; omega)
      unfold lnS at this
      rw [List.length_cons, this]
theorem split_any (s : List UInt8) (w : World) (hs : s.length ≤ 4095) (hv : Vb w) :
    Calls Tryd.prog 29 #[.string (tx s), .string (tx [10])] w fun e w' => e = .returned (.slice (some ⟨w.heap.size, 0, none⟩) (s.count 10 + 1) (s.count 10 + 1)) ∧ Cells w' w.heap.size (strV (lnS s)) ∧ Below w.heap.size w w' := by
  obtain ⟨m, hm⟩ := hv.max
  refine (Any.strings_Split lays146 (by kernel_rfl) (tx s) (tx [10]) m w (by rw [tx_size]; omega) hm (by decide)).mono ?_
  have hc : Lib.countB (tx s) (tx [10]) = s.count 10 := by
    show Lib.count (tx s).data.toList (tx [10]).data.toList = _
    rw [tx_data, tx_data, Lib.count_one]
  rintro e w' ⟨he, rfl⟩
  rw [hc] at he ⊢
  refine ⟨he, ?_, (Below.refl _ w).alloc (Nat.le_refl _) _⟩
  rw [splitB_tx, List.map_map]
  exact cells_new w ((cutN 10 (s.count 10) s).map (Value.string ∘ tx)).toArray _
theorem splitN_any (s : List UInt8) (w : World) (hs : s.length ≤ 4095) (hv : Vb w) :
    Calls Tryd.prog 30 #[.string (tx s), .string (tx [58]), .int .i64 3] w fun e w' => ∃ c, e = .returned (.slice (some ⟨w.heap.size, 0, none⟩) (cutN 58 2 s).length c) ∧ (cutN 58 2 s).length ≤ c ∧ (∀ j x, (cutN 58 2 s)[j]? = some x → w'.cell? ⟨w.heap.size, j, none⟩ = some (.string (tx x))) ∧ Below w.heap.size w w' := by
  obtain ⟨m, hm⟩ := hv.max
  refine (Any.strings_SplitN lays147 (by kernel_rfl) (tx s) (tx [58]) 3 m w (by rw [tx_size]; omega) hm (by decide) (by decide) (by decide)).mono ?_
  rintro e w' ⟨he, rfl⟩
  have hsz : (tx s).size = s.length := rfl
  have hk : cutN 58 (min 3 ((tx s).size + 1) - 1) s = cutN 58 2 s := by
    rw [hsz]
    by_cases h2 : 2 ≤ s.length
    · rw [show min 3 (s.length + 1) - 1 = 2 by omega]
    · exact cutN_more 58 _ _ s (by omega) (by omega)
  rw [splitB_tx, hk] at he ⊢
  rw [List.length_map] at he
  have hlen : (cutN 58 2 s).length ≤ min 3 ((tx s).size + 1) := by
    rw [← hk]
    have := (cutN_len 58 (min 3 ((tx s).size + 1) - 1) s).2.1
    omega
  refine ⟨_, he, hlen, fun j x hj => ?_, (Below.refl _ w).alloc (Nat.le_refl _) _⟩
  refine (cells_new w (Lib.cellsOf ((cutN 58 2 s).map tx) (min 3 ((tx s).size + 1))) _).cell j _ ?_
  unfold Lib.cellsOf
  have hl := (List.getElem?_eq_some_iff.1 hj).1
  rw [List.getElem?_append_left (by simpa using hl), List.map_map, List.getElem?_map, hj]
  rfl

end Go.Proofs.YtkklinjamcfppaaDoor
