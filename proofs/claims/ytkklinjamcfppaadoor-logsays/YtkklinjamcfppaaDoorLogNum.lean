/-
  Contracts of strconv.Atoi, strings.Cut as log uses them, and of log.number.
-/
import Derived.Test.YtkklinjamcfppaaDoorParPlain
import Derived.Lib.AtoiErrMem
namespace Go.Proofs.YtkklinjamcfppaaDoor
open Go.RowKit
set_option linter.unusedVariables false

/-- what lies in the library's variables -/
structure Vb (W : World) : Prop where
  ten : P10 W
  bad : ∃ tp p, W.var? Tryd.prog "strconv.ErrSyntax" = some #[.iface tp p]
  far : ∃ tp p, W.var? Tryd.prog "strconv.ErrRange" = some #[.iface tp p]
  max : ∃ m, W.cell? ⟨0, 0, none⟩ = some (.int .i64 m)
theorem Vb.step {W W' : World} (h : Vb W) (hb : Below W.heap.size W W') : Vb W' := by
  obtain ⟨m, hm⟩ := h.max
  obtain ⟨t1, p1, h1⟩ := h.bad
  obtain ⟨t2, p2, h2⟩ := h.far
  refine ⟨h.ten.step hb, ⟨t1, p1, var_step h1 hb⟩, ⟨t2, p2, var_step h2 hb⟩, m, ?_⟩
  have hl : 0 < W.heap.size := by
    rcases Nat.lt_or_ge 0 W.heap.size with g | g
    · exact g
    · simp [World.cell?, Array.getElem?_eq_none g] at hm
  exact (hb.cell (p := ⟨0, 0, none⟩) hl).trans hm
/-- a text by its bytes -/
def tx (l : List UInt8) : ByteArray := ⟨l.toArray⟩
theorem tx_list (s : ByteArray) : tx s.data.toList = s := by
  apply ByteArray.ext
  simp [tx]
theorem tx_data (l : List UInt8) : (tx l).data.toList = l := by simp [tx]
theorem tx_size (l : List UInt8) : (tx l).size = l.length := rfl
theorem drewN_grown (W : World) (d : Nat) : Below W.heap.size W (W.drewN d) := ⟨rfl, rfl, rfl, Nat.le_refl _, fun _ _ => rfl⟩
theorem cut_yes (b : UInt8) (r x y : List UInt8) (w : World) (hr : r.length ≤ 4095) (hv : Vb w) (h : cutB b r = some (x, y)) :
    Calls Tryd.prog 31 #[.string (tx r), .string (tx [b])] w fun e w' => e = .returned (.tuple #[.string (tx x), .string (tx y), .bool true]) ∧ Below w.heap.size w w' := by
  obtain ⟨m, hm⟩ := hv.max
  refine (Any.strings_Cut lays145 (tx r) (tx [b]) m w (by rw [tx_size]; omega) hm).mono ?_
  rintro e w' ⟨he, n, rfl⟩
  rw [tx_data, tx_data, cut_some h] at he
  exact ⟨he, drewN_grown _ _⟩
theorem cut_no (b : UInt8) (r : List UInt8) (w : World) (hr : r.length ≤ 4095) (hv : Vb w) (h : cutB b r = none) :
    Calls Tryd.prog 31 #[.string (tx r), .string (tx [b])] w fun e w' => e = .returned (.tuple #[.string (tx r), .string (tx []), .bool false]) ∧ Below w.heap.size w w' := by
  obtain ⟨m, hm⟩ := hv.max
  refine (Any.strings_Cut lays145 (tx r) (tx [b]) m w (by rw [tx_size]; omega) hm).mono ?_
  rintro e w' ⟨he, n, rfl⟩
  rw [tx_data, tx_data, cut_none h] at he
  exact ⟨he, drewN_grown _ _⟩
theorem atoi_ok (l : List UInt8) (v : Int) (w : World) (hl : l.length ≤ 4095) (h : Lib.atoiAll l = .ok v) :
    Calls Tryd.prog 51 #[.string (tx l)] w fun e w' => e = .returned (.tuple #[.int .i64 v, .nilIface]) ∧ Below w.heap.size w w' := by
  refine (Any.strconv_Atoi_ok laysC172 (tx l) (by rw [tx_size]; omega) v (by rw [tx_data]; exact h) w).mono ?_
  rintro e w' ⟨he, hw⟩
  refine ⟨he, ?_⟩
  rcases hw with rfl | ⟨t, rfl⟩
  · exact Below.refl _ _
  · exact Lib.bytesWorld_below _ _ _
theorem atoi_bad (l : List UInt8) (w : World) (hl : l.length ≤ 4095) (hv : Vb w) (h : ∀ v, Lib.atoiAll l ≠ .ok v) :
    Calls Tryd.prog 51 #[.string (tx l)] w fun e w' => ∃ v t p, e = .returned (.tuple #[.int .i64 v, .iface t p]) ∧ Below w.heap.size w w' := by
  cases hq : Lib.atoiAll l with
  | ok v => exact absurd hq (h v)
  | «syntax» =>
    obtain ⟨tp, p, hp⟩ := hv.bad
    refine (Any.strconv_Atoi_syntax_var laysC172 (tx l) (by rw [tx_size]; omega) (by rw [tx_data]; exact hq) tp p w hp).mono ?_
    rintro e w' ⟨N, he, _, _, hb⟩
    exact ⟨_, _, _, he, hb⟩
  | range =>
    obtain ⟨tp, p, hp⟩ := hv.far
    refine (Any.strconv_Atoi_range_var laysC172 (tx l) (by rw [tx_size]; omega) (by rw [tx_data]; exact hq) tp p w hp).mono ?_
    rintro e w' ⟨N, he, _, _, hb⟩
    exact ⟨_, _, _, he, hb⟩

/-- what number tells: what it says, if it is one -/
def NumTells (w : World) (l : List UInt8) (e : Ending) (w' : World) : Prop := ∃ v, e = .returned (.tuple #[.int .i64 v, .bool (canB l)]) ∧ (canB l = true → v = (vlN 0 l : Int)) ∧ Below w.heap.size w w'

set_option maxHeartbeats 4000000 in
theorem number_any (l : List UInt8) (w : World) (hl : l.length ≤ 4095) (hv : Vb w) : Calls Tryd.prog 42 #[.string (tx l)] w fun e w' => NumTells w l e w' := by
  show Calls Tryd.prog 42 #[.string (tx l)] w fun e w' => ∃ v', e = .returned (.tuple #[.int .i64 v', .bool (canB l)]) ∧ (canB l = true → v' = (vlN 0 l : Int)) ∧ Below w.heap.size w w'
  by_cases h : ∃ v, Lib.atoiAll l = .ok v
  · obtain ⟨v, h⟩ := h
    have CA : Hid (∀ W, Calls Tryd.prog 51 #[.string (tx l)] W fun e w' => e = .returned (.tuple #[.int .i64 v, .nilIface]) ∧ Below W.heap.size W w') := fun W => atoi_ok l v W hl h
    have hb := Lib.atoiAll_bounds h
    have HV : Hid (canB l = true → v = (vlN 0 l : Int)) := fun q => by
      have := (atoi_can q).1
      rw [h] at this
      simpa using this
    have hs : ((tx l).size : Int) = (l.length : Int) := rfl
    by_cases h0 : 0 ≤ v
    · by_cases h1 : l.length ≤ 10
      · have CI : Hid (∀ W, P10 W → Calls Tryd.prog 27 #[.int .i64 v] W fun e w' => e = .returned (.string (itB v)) ∧ Below W.heap.size W w') := fun W hW => itoa_any v W hb hW
        have HP : Hid (P10 w) := hv.ten
        have HC : Hid (((itB v).toList == (tx l).toList) = canB l) := by
          show ((itB v).toList == (tx l).toList) = canB l
          rw [show (itB v).toList = Lib.itoa v by rw [ByteArray.toList_eq]; simp [itB], show (tx l).toList = l by rw [ByteArray.toList_eq]; simp [tx]]
          rcases twoB (canB l) with q | q
          · rw [q, beq_eq_false_iff_ne]
            intro k
            rw [can_of h0 h1 k] at q
            cases q
          · rw [q, show v = (vlN 0 l : Int) from HV.out q, itoa_can q, beq_self_eq_true]
        generalize canB l = r at HV HC ⊢
        generalize itB v = A at CI HC ⊢
        have z1 : ((tx l).size : Int) ≤ 10 := by rw [hs]; omega
        generalize tx l = S at CA HC z1 ⊢
        clear hs hv h hl h1
        go_enter Tryd.func42, Tryd.ntmps42
        go_wp2_with fail
        refine (CA.out _).mono ?_
        rintro e w1 ⟨rfl, hb1⟩
        have B1 : Hid (Below w.heap.size w w1) := hb1
        clear hb1
        go_wp2_with fail
        refine (CI.out _ (HP.out.step B1.out)).mono ?_
        rintro e w2 ⟨rfl, hb2⟩
        have B2 : Hid (Below w.heap.size w w2) := below_then B1.out hb2 B1.out.size
        clear hb2
        go_wp2_with fail
        go_ret2
        exact ⟨v, by rw [← HC.out]; rfl, HV.out, B2.out⟩
      · have HC : Hid (canB l = false) := by
          show canB l = false
          rw [Bool.eq_false_iff]
          intro k
          exact h1 ((canB_iff l).1 k).2
        have z1 : ¬ ((tx l).size : Int) ≤ 10 := by rw [hs]; omega
        generalize canB l = r at HV HC ⊢
        generalize tx l = S at CA z1 ⊢
        clear hs hv h hl h1
        go_enter Tryd.func42, Tryd.ntmps42
        go_wp2_with fail
        refine (CA.out _).mono ?_
        rintro e w1 ⟨rfl, hb1⟩
        have B1 : Hid (Below w.heap.size w w1) := hb1
        clear hb1
        go_wp2_with fail
        go_ret2
        exact ⟨v, by rw [HC.out]; rfl, HV.out, B1.out⟩
    · have HC : Hid (canB l = false) := by
        show canB l = false
        rw [Bool.eq_false_iff]
        intro k
        have := HV.out k
        omega
      generalize canB l = r at HV HC ⊢
      generalize tx l = S at CA ⊢
      clear hs hv h hl
      go_enter Tryd.func42, Tryd.ntmps42
      go_wp2_with fail
      refine (CA.out _).mono ?_
      rintro e w1 ⟨rfl, hb1⟩
      have B1 : Hid (Below w.heap.size w w1) := hb1
      clear hb1
      go_wp2_with fail
      go_ret2
      exact ⟨v, by rw [HC.out]; rfl, HV.out, B1.out⟩
  · have h' : ∀ v, Lib.atoiAll l ≠ .ok v := fun v k => h ⟨v, k⟩
    have CA := atoi_bad l w hl hv h'
    have HC : Hid (canB l = false) := by
      show canB l = false
      rw [Bool.eq_false_iff]
      intro k
      exact h' _ (atoi_can k).1
    have HV : Hid (∀ v : Int, canB l = true → v = (vlN 0 l : Int)) := fun v k => by
      rw [HC.out] at k
      cases k
    generalize canB l = r at HV HC ⊢
    generalize tx l = S at CA ⊢
    clear hv h h' hl
    go_enter Tryd.func42, Tryd.ntmps42
    go_wp2_with fail
    refine CA.mono ?_
    rintro e w1 ⟨v, t, p, rfl, hb1⟩
    have B1 : Hid (Below w.heap.size w w1) := hb1
    clear hb1 CA
    go_wp2_with fail
    go_ret2
    exact ⟨v, by rw [HC.out]; rfl, HV.out v, B1.out⟩

end Go.Proofs.YtkklinjamcfppaaDoor
