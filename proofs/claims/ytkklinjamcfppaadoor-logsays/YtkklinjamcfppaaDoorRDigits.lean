/-
  Contract of the document's digitsOf: what number tells.
-/
import Derived.Test.YtkklinjamcfppaaDoorLogNum
import Derived.Laws.IdiomStrings
import Derived.Deep.OwnRows
namespace Go.Proofs.YtkklinjamcfppaaDoor
open Go.RowKit
set_option linter.unusedVariables false

/-- the k-th byte of a text, or 0 -/
def bAt (l : List UInt8) (k : Nat) : Nat := (l.getD k 0).toNat
theorem bAt_lt (l : List UInt8) (k : Nat) : bAt l k < 256 := UInt8.toNat_lt _
theorem bAt_get (l : List UInt8) {k : Nat} (h : k < l.length) : bAt l k = l[k].toNat := by
  unfold bAt
  rw [List.getD_eq_getElem?_getD, List.getElem?_eq_getElem h]
  rfl
theorem bytes_tx (l : List UInt8) (w : World) : ∃ (cap : Nat) (W : World), (convert 9 46 (.string (tx l))).run Tryd.prog w = .ok (.slice (some ⟨w.heap.size, 0, none⟩) l.length cap) W ∧ (∀ i, i < l.length → W.cell? ⟨w.heap.size, i, none⟩ = some (.int .u8 (bAt l i : Nat))) ∧ Below w.heap.size w W := by
  have hcv := run_bytes_of_string (P := Tryd.prog) w 9 46 5 (tx l) Tryd.underlying9 Tryd.underlying46 Tryd.underlying5
  refine ⟨_, _, hcv, fun i hi => ?_, (Below.refl _ w).drew.alloc (Nat.le_refl _) _⟩
  rw [show (⟨w.heap.size, i, none⟩ : Addr) = ⟨w.drew.heap.size, i, none⟩ from rfl, World.cell?_alloc_mark]
  unfold bytesRow
  rw [Array.getElem?_append_left (by simpa [tx] using hi), bAt_get l hi]
  refine (Array.getElem?_eq_some_iff.2 ⟨by simpa [tx] using hi, ?_⟩)
  rw [Array.getElem_map]
  simp [tx]
theorem index_tx (l : List UInt8) (h : l ≠ []) (W : World) : (Instr.index 9 (.string (tx l)) (.int .i64 0)).run Tryd.prog W = .ok (.int .u8 (bAt l 0 : Nat)) W := by
  have hl : 0 < (tx l).size := by
    show 0 < l.length
    exact List.length_pos_iff.2 h
  rw [run_index_string W 9 (tx l) .i64 0 Tryd.underlying9, dif_pos (by omega), bAt_get l hl]
  congr 3
theorem vlN_take (l : List UInt8) {q : Nat} (h : q < l.length) : vlN 0 (l.take (q + 1)) = vlN 0 (l.take q) * 10 + (bAt l q - 48) := by
  rw [List.take_add_one, List.getElem?_eq_getElem h, bAt_get l h, vlN_append]
  rfl
theorem vlN_small (l : List UInt8) (q : Nat) (hl : l.length ≤ 10) (h : ∀ j, j < q → isDg (l.getD j 0) = true) (hq : q ≤ l.length) : vlN 0 (l.take q) < 10000000000 := by
  have := vlN_lt (l.take q) (fun c hc => by
    obtain ⟨j, hj, rfl⟩ := List.mem_iff_getElem.1 hc
    have hj2 : j < q := by rw [List.length_take] at hj; omega
    have := h j hj2
    rw [List.getD_eq_getElem?_getD, List.getElem?_eq_getElem (by omega)] at this
    rw [List.getElem_take]
    exact this) 0
  have hp : 10 ^ (l.take q).length ≤ 10 ^ 10 := Nat.pow_le_pow_right (by decide) (by rw [List.length_take]; omega)
  simp only [Nat.zero_add, Nat.one_mul] at this
  have e : (10 : Nat) ^ 10 = 10000000000 := by decide
  omega

/-- what digitsOf asks ahead -/
def hdB (l : List UInt8) : Bool := l.isEmpty || decide (10 < l.length) || (decide (1 < l.length) && decide (bAt l 0 = 48))
theorem u8_48 (c : UInt8) : c.toNat = 48 ↔ c = 48 := by
  constructor
  · intro h
    exact u8_ext h
  · rintro rfl
    rfl
theorem canB_hd (l : List UInt8) : canB l = (!hdB l && l.all isDg) := by
  cases l with
  | nil => rfl
  | cons c r =>
    unfold canB hdB
    have e : (decide (bAt (c :: r) 0 = 48)) = decide ((c :: r).head? = some 48) := by
      rw [decide_eq_decide]
      show (c.toNat = 48) ↔ _
      rw [u8_48]
      simp
    rw [e]
    have e2 : (decide (10 < (c :: r).length)) = !decide ((c :: r).length ≤ 10) := by
      rw [← decide_not, decide_eq_decide]
      omega
    have e3 : (decide (1 < (c :: r).length)) = !decide ((c :: r).length = 1) := by
      rw [← decide_not, decide_eq_decide]
      simp only [List.length_cons]
      omega
    rw [e2, e3]
    have e4 : decide ((c :: r).head? ≠ some 48) = !decide ((c :: r).head? = some 48) := decide_not
    rw [e4]
    cases decide ((c :: r).length ≤ 10) <;> cases decide ((c :: r).length = 1) <;> cases decide ((c :: r).head? = some 48) <;> cases (c :: r).all isDg <;> rfl
theorem hd_cases (l : List UInt8) : (l = [] ∧ hdB l = true) ∨ (l ≠ [] ∧ 10 < l.length ∧ hdB l = true) ∨ (l ≠ [] ∧ ¬ 10 < l.length ∧ 1 < l.length ∧ bAt l 0 = 48 ∧ hdB l = true) ∨ (l ≠ [] ∧ ¬ 10 < l.length ∧ 1 < l.length ∧ bAt l 0 ≠ 48 ∧ hdB l = false) ∨ (l ≠ [] ∧ ¬ 10 < l.length ∧ ¬ 1 < l.length ∧ hdB l = false) := by
  unfold hdB
  by_cases h1 : l = []
  · exact Or.inl ⟨h1, by rw [h1]; rfl⟩
  · have e1 : l.isEmpty = false := by simpa using h1
    by_cases h2 : 10 < l.length
    · exact Or.inr (Or.inl ⟨h1, h2, by simp [e1, h2]⟩)
    · by_cases h3 : 1 < l.length
      · by_cases h4 : bAt l 0 = 48
        · exact Or.inr (Or.inr (Or.inl ⟨h1, h2, h3, h4, by simp [e1, h2, h3, h4]⟩))
        · exact Or.inr (Or.inr (Or.inr (Or.inl ⟨h1, h2, h3, h4, by simp [e1, h2, h3, h4]⟩)))
      · exact Or.inr (Or.inr (Or.inr (Or.inr ⟨h1, h2, h3, by simp [e1, h2, h3]⟩)))

set_option maxHeartbeats 4000000 in
theorem digits_bad (l : List UInt8) (w : World) (hl : l.length ≤ 4095) (h : (l = [] ∧ hdB l = true) ∨ (l ≠ [] ∧ 10 < l.length ∧ hdB l = true) ∨ (l ≠ [] ∧ ¬ 10 < l.length ∧ 1 < l.length ∧ bAt l 0 = 48 ∧ hdB l = true)) :
    Calls Tryd.prog 32 #[.string (tx l)] w fun e w' => e = .returned (.tuple #[.int .i64 0, .bool false]) ∧ Below w.heap.size w w' := by
  have hsz : ((tx l).size : Int) = (l.length : Int) := rfl
  have he : (tx l).toList.isEmpty = l.isEmpty := by rw [ByteArray.toList_eq, tx_data]
  rcases h with ⟨h1, _⟩ | ⟨h1, h2, _⟩ | ⟨h1, h2, h3, h4, _⟩
  · have q1 : (tx l).toList.isEmpty = true := by rw [he, h1]; rfl
    clear he hsz hl h1
    go_enter Tryd.func32, Tryd.ntmps32
    go_wp2_with fail
    go_ret2
    exact ⟨rfl, Below.refl _ _⟩
  · have q1 : (tx l).toList.isEmpty = false := by rw [he]; simpa using h1
    have z1 : (10 : Int) < ((tx l).size : Int) := by omega
    clear he hl h1 h2 hsz
    go_enter Tryd.func32, Tryd.ntmps32
    go_wp2_with fail
    go_ret2
    exact ⟨rfl, Below.refl _ _⟩
  · have q1 : (tx l).toList.isEmpty = false := by rw [he]; simpa using h1
    have z1 : ¬ (10 : Int) < ((tx l).size : Int) := by omega
    have z2 : (1 : Int) < ((tx l).size : Int) := by omega
    have i0 := index_tx l h1
    rw [h4] at i0
    have i1 : ∀ W, (Instr.index 9 (.string (tx l)) (.int .i64 0)).run Tryd.prog W = .ok (.int .u8 48) W := i0
    clear he hl h1 h2 h3 h4 hsz i0
    go_enter Tryd.func32, Tryd.ntmps32
    go_wp2_with fail
    go_ret2
    exact ⟨rfl, Below.refl _ _⟩

set_option maxHeartbeats 4000000 in
set_option maxRecDepth 100000 in
theorem digits_good (l : List UInt8) (w : World) (h : (l ≠ [] ∧ ¬ 10 < l.length ∧ 1 < l.length ∧ bAt l 0 ≠ 48 ∧ hdB l = false) ∨ (l ≠ [] ∧ ¬ 10 < l.length ∧ ¬ 1 < l.length ∧ hdB l = false)) :
    Calls Tryd.prog 32 #[.string (tx l)] w fun e w' => ∃ v, e = .returned (.tuple #[.int .i64 v, .bool (l.all isDg)]) ∧ (l.all isDg = true → v = (vlN 0 l : Int)) ∧ Below w.heap.size w w' := by
  have hsz : ((tx l).size : Int) = (l.length : Int) := rfl
  have he : (tx l).toList.isEmpty = l.isEmpty := by rw [ByteArray.toList_eq, tx_data]
  obtain ⟨h1, h2⟩ : l ≠ [] ∧ ¬ 10 < l.length := by rcases h with ⟨h1, h2, _⟩ | ⟨h1, h2, _⟩ <;> exact ⟨h1, h2⟩
  have q1 : (tx l).toList.isEmpty = false := by rw [he]; simpa using h1
  have z1 : ¬ (10 : Int) < ((tx l).size : Int) := by omega
  have i0 := index_tx l h1
  obtain ⟨c0, hc0⟩ : ∃ c0 : Int, ((bAt l 0 : Nat) : Int) = c0 := ⟨_, rfl⟩
  rw [hc0] at i0
  have H2 : Hid (¬ 10 < l.length) := h2
  obtain ⟨cap, W, hcv, hcell, hbel⟩ := bytes_tx l w
  have HC : Hid (_) := hcell
  have HB0 : Hid (_) := hbel
  obtain ⟨U, hU⟩ : ∃ U, tx l = U := ⟨_, rfl⟩
  rw [hU] at hsz q1 z1 i0 hcv ⊢
  have key : (1 < (U.size : Int) ∧ c0 ≠ 48) ∨ ¬ 1 < (U.size : Int) := by
    rcases h with ⟨_, _, a, b, _⟩ | ⟨_, _, a, _⟩
    · left
      refine ⟨by omega, fun k => b ?_⟩
      omega
    · right
      omega
  clear he h1 h2 h hcell hbel hU
  obtain ⟨R, hR⟩ : ∃ R, l.all isDg = R := ⟨_, rfl⟩
  have HR : Hid (l.all isDg = R) := hR
  rw [hR]
  clear hR
  rcases key with ⟨z2, z3⟩ | z2
  all_goals
    clear hsz hc0
    go_enter Tryd.func32, Tryd.ntmps32
    go_wp2_with fail
    go_loopg [4, 27] (l.length + 1) (fun g s4 s27 wr => ∃ (q : Nat) (A : Int), s4 = .int .i64 A ∧ s27 = .int .i64 q ∧ Hid (l.length - q < g) ∧ Hid (q ≤ l.length) ∧ Hid (A = ((vlN 0 (l.take q) : Nat) : Int)) ∧ Hid (∀ j, j < q → isDg (l.getD j 0) = true) ∧ Hid (Below w.heap.size w wr) ∧ Hid (∀ i, i < l.length → wr.cell? ⟨w.heap.size, i, none⟩ = some (.int .u8 (bAt l i : Nat))))
    case atStart => exact ⟨0, 0, rfl, rfl, (by omega : l.length - 0 < l.length + 1), Nat.zero_le _, rfl, (fun j hj => absurd hj (by omega)), HB0.out, HC.out⟩
    case round =>
      obtain ⟨q, A, rfl, rfl, Hg, Hq, HA, HD, HB, HW⟩ := hrel
      clear HC HB0 hcv
      by_cases hlt : q < l.length
      · have z4 : (q : Int) < (l.length : Int) := by omega
        have z5 : (0 : Int) ≤ (q : Int) := by omega
        have d0 := HW.out q hlt
        have hs := vlN_small l q (by have := H2.out; omega) HD.out Hq.out
        have z6 : 0 ≤ A := by rw [HA.out]; omega
        have z7 : A ≤ 9999999999 := by rw [HA.out]; omega
        have hbl := bAt_lt l q
        obtain ⟨b, hb⟩ : ∃ b : Int, ((bAt l q : Nat) : Int) = b := ⟨_, rfl⟩
        rw [hb] at d0
        have z8 : 0 ≤ b := by omega
        have z9 : b < 256 := by omega
        have HBB : Hid (((bAt l q : Nat) : Int) = b) := hb
        clear hs hbl hb hlt
        by_cases g1 : b < 48
        · have HN : Hid (R = false) := by
            show R = false
            rw [← HR.out]
            rw [Bool.eq_false_iff]
            intro k
            have k1 := List.all_eq_true.1 k (l[q]'(by omega)) (List.getElem_mem _)
            rw [isDg_iff, ← bAt_get] at k1
            have := HBB.out
            omega
          have HV0 : Hid (∀ v : Int, R = true → v = (vlN 0 l : Int)) := fun v k => by rw [HN.out] at k; cases k
          go_wp2_with fail
          go_ret2
          exact ⟨0, by rw [HN.out]; rfl, HV0.out 0, HB.out⟩
        · by_cases g2 : 57 < b
          · have HN : Hid (R = false) := by
              show R = false
              rw [← HR.out]
              rw [Bool.eq_false_iff]
              intro k
              have k1 := List.all_eq_true.1 k (l[q]'(by omega)) (List.getElem_mem _)
              rw [isDg_iff, ← bAt_get] at k1
              have := HBB.out
              omega
            have HV0 : Hid (∀ v : Int, R = true → v = (vlN 0 l : Int)) := fun v k => by rw [HN.out] at k; cases k
            go_wp2_with fail
            go_ret2
            exact ⟨0, by rw [HN.out]; rfl, HV0.out 0, HB.out⟩
          · have HA2 : Hid (10 * A + b - 48 = ((vlN 0 (l.take (q + 1)) : Nat) : Int)) := by
              show 10 * A + b - 48 = ((vlN 0 (l.take (q + 1)) : Nat) : Int)
              rw [vlN_take l (by omega), HA.out, ← HBB.out]
              have := HBB.out
              omega
            have HD2 : Hid (∀ j, j < q + 1 → isDg (l.getD j 0) = true) := fun j hj => by
              by_cases e : j = q
              · subst e
                have := HBB.out
                rw [isDg_iff]
                show 48 ≤ bAt l j ∧ bAt l j ≤ 57
                omega
              · exact HD.out j (by omega)
            have HQ : Hid (q < l.length) := (by omega : q < l.length)
            have z10 : ¬ b < 48 := g1
            have z11 : (q : Int) < 10 := by have := H2.out; have := HQ.out; omega
            go_wp2_with fail
            go_roundg (l.length - (q + 1) + 1)
            case measure => exact (by have := Hg.out; have := HQ.out; omega)
            case rel => exact ⟨q + 1, 10 * A + b - 48, by go_num, by go_num, (by omega : l.length - (q + 1) < l.length - (q + 1) + 1), HQ.out, HA2.out, HD2.out, HB.out, HW.out⟩
      · obtain rfl : q = l.length := by have := Hq.out; omega
        have z4 : ¬ ((l.length : Nat) : Int) < (l.length : Int) := by omega
        have HN : Hid (R = true) := by
          show R = true
          rw [← HR.out, List.all_eq_true]
          intro c hc
          obtain ⟨j, hj, rfl⟩ := List.mem_iff_getElem.1 hc
          have := HD.out j hj
          rw [List.getD_eq_getElem?_getD, List.getElem?_eq_getElem hj] at this
          exact this
        have HV : Hid (A = (vlN 0 l : Int)) := by
          have := HA.out
          rw [List.take_length] at this
          exact this
        go_wp2_with fail
        go_ret2
        exact ⟨A, by rw [HN.out]; rfl, fun _ => HV.out, HB.out⟩

theorem digits_any (l : List UInt8) (w : World) (hl : l.length ≤ 4095) : Calls Tryd.prog 32 #[.string (tx l)] w fun e w' => NumTells w l e w' := by
  unfold NumTells
  rw [canB_hd]
  rcases hd_cases l with h | h | h | h | h
  · rw [h.2]
    refine (digits_bad l w hl (Or.inl h)).mono ?_
    rintro e w' ⟨he, hb⟩
    exact ⟨0, he, fun k => (by cases k), hb⟩
  · rw [h.2.2]
    refine (digits_bad l w hl (Or.inr (Or.inl h))).mono ?_
    rintro e w' ⟨he, hb⟩
    exact ⟨0, he, fun k => (by cases k), hb⟩
  · rw [h.2.2.2.2]
    refine (digits_bad l w hl (Or.inr (Or.inr h))).mono ?_
    rintro e w' ⟨he, hb⟩
    exact ⟨0, he, fun k => (by cases k), hb⟩
  · rw [h.2.2.2.2]
    exact digits_good l w (Or.inl h)
  · rw [h.2.2.2]
    exact digits_good l w (Or.inr h)

end Go.Proofs.YtkklinjamcfppaaDoor
