/-
  Contracts of the document's entryErr and LogErr: what Check tells.
-/
import Derived.Test.YtkklinjamcfppaaDoorLogPut
import Derived.Test.YtkklinjamcfppaaDoorLay
import Derived.Deep.RegionHeld
namespace Go.Proofs.YtkklinjamcfppaaDoor
open Go.RowKit
set_option linter.unusedVariables false

/-- from the q-th number on an entry is right -/
def okFr (x : En) (q : Nat) : Bool := if q = 0 then frB x.f 0 1073741824 && frB x.l 0 4 && frB x.c 1 20 && frB x.m 1 9999 else if q = 1 then frB x.l 0 4 && frB x.c 1 20 && frB x.m 1 9999 else if q = 2 then frB x.c 1 20 && frB x.m 1 9999 else if q = 3 then frB x.m 1 9999 else true
theorem okFr_no (x : En) (q : Nat) (hq : q < 4) (h : frB (if q = 0 then x.f else if q = 1 then x.l else if q = 2 then x.c else x.m) (if q < 2 then 0 else 1) (if q = 0 then 1073741824 else if q = 1 then 4 else if q = 2 then 20 else 9999) = false) : okFr x q = false := by
  rcases (show q = 0 ∨ q = 1 ∨ q = 2 ∨ q = 3 by omega) with rfl | rfl | rfl | rfl <;> simp [okFr] at h ⊢ <;> simp [h]
theorem okFr_yes (x : En) (q : Nat) (hq : q < 4) (h : frB (if q = 0 then x.f else if q = 1 then x.l else if q = 2 then x.c else x.m) (if q < 2 then 0 else 1) (if q = 0 then 1073741824 else if q = 1 then 4 else if q = 2 then 20 else 9999) = true) : okFr x q = okFr x (q + 1) := by
  rcases (show q = 0 ∨ q = 1 ∨ q = 2 ∨ q = 3 by omega) with rfl | rfl | rfl | rfl <;> simp [okFr] at h ⊢ <;> simp [h]
def eE (x : En) : Int := if okE x = true then 0 else 1
theorem cases4q {q : Nat} (h : q < 4) : q = 0 ∨ q = 1 ∨ q = 2 ∨ q = 3 := by omega

set_option maxHeartbeats 8000000 in
theorem entryErr_any (x : En) (w : World) : Calls Tryd.prog 19 #[.agg #[.int .i64 x.f, .int .i64 x.l, .int .i64 x.c, .int .i64 x.m]] w fun e w' => e = .returned (.int .i64 (eE x)) ∧ Below w.heap.size w w' := by
  obtain ⟨W0, hW0, B0', Z0'⟩ := lay2n w #[.int .i64 x.f, .int .i64 x.l, .int .i64 x.c, .int .i64 x.m] #[.int .i64 x.f, .int .i64 0, .int .i64 1073741824, .int .i64 x.l, .int .i64 0, .int .i64 4, .int .i64 x.c, .int .i64 1, .int .i64 20, .int .i64 x.m, .int .i64 1, .int .i64 9999] 33 66
  have HW : Hid (_) := hW0
  have B0 : Hid (_) := B0'
  clear hW0 B0' Z0'
  go_enter Tryd.func19, Tryd.ntmps19
  go_wp2_with fail
  rw [HW.out]
  clear HW
  go_loopg [19] 5 (fun g s wr => ∃ q : Nat, s = .int .i64 q ∧ Hid (4 - q < g) ∧ Hid (q ≤ 4) ∧ Hid (okE x = okFr x q) ∧ Hid (Lay w [[.int .i64 x.f, .int .i64 x.l, .int .i64 x.c, .int .i64 x.m], [.int .i64 x.f, .int .i64 0, .int .i64 1073741824, .int .i64 x.l, .int .i64 0, .int .i64 4, .int .i64 x.c, .int .i64 1, .int .i64 20, .int .i64 x.m, .int .i64 1, .int .i64 9999]] wr))
  case atStart => exact ⟨0, rfl, (by decide : 4 - 0 < 5), (by decide : 0 ≤ 4), (rfl : okE x = okFr x 0), B0.out⟩
  case round =>
    obtain ⟨q, rfl, Hg, Hq, HO, HB⟩ := hrel
    clear B0
    by_cases hlt : q < 4
    · rcases cases4q hlt with rfl | rfl | rfl | rfl
      · have C1 : Hid (_) := HB.out.blk 1 (w.heap.size + 1) _ rfl rfl
        have d0 := C1.out.cell 0 _ rfl
        have d1 := C1.out.cell 1 _ rfl
        have d2 := C1.out.cell 2 _ rfl
        have dl := C1.out.lt
        clear hlt
        by_cases h : 0 ≤ x.f ∧ x.f ≤ 1073741824
        · have HO2 : Hid (okE x = okFr x 1) := HO.out.trans (okFr_yes x 0 (by decide) ((frB_iff _ _ _).2 h))
          obtain ⟨h1, h2⟩ := h
          clear HO
          go_wp2_with fail
          go_roundg (4 - 0)
          case measure => exact Hg.out
          case rel => exact ⟨1, rfl, (by decide : 4 - 1 < 4 - 0), (by decide : 1 ≤ 4), HO2.out, HB.out.alloc _⟩
        · have HO2 : Hid (okE x = false) := HO.out.trans (okFr_no x 0 (by decide) (by
            rw [Bool.eq_false_iff]
            exact fun k => h ((frB_iff _ _ _).1 k)))
          have HE : Hid (eE x = 1) := by
            show eE x = 1
            unfold eE
            rw [HO2.out]
            rfl
          clear HO
          by_cases h1 : x.f < 0
          · go_wp2_with fail
            go_ret
            exact ⟨by rw [HE.out]; rfl, (HB.out.alloc _).bel⟩
          · have h2 : 1073741824 < x.f := by omega
            go_wp2_with fail
            go_ret
            exact ⟨by rw [HE.out]; rfl, (HB.out.alloc _).bel⟩
      · have C1 : Hid (_) := HB.out.blk 1 (w.heap.size + 1) _ rfl rfl
        have d0 := C1.out.cell 3 _ rfl
        have d1 := C1.out.cell 4 _ rfl
        have d2 := C1.out.cell 5 _ rfl
        have dl := C1.out.lt
        clear hlt
        by_cases h : 0 ≤ x.l ∧ x.l ≤ 4
        · have HO2 : Hid (okE x = okFr x 2) := HO.out.trans (okFr_yes x 1 (by decide) ((frB_iff _ _ _).2 h))
          obtain ⟨h1, h2⟩ := h
          clear HO
          go_wp2_with fail
          go_roundg (4 - 1)
          case measure => exact Hg.out
          case rel => exact ⟨2, rfl, (by decide : 4 - 2 < 4 - 1), (by decide : 2 ≤ 4), HO2.out, HB.out.alloc _⟩
        · have HO2 : Hid (okE x = false) := HO.out.trans (okFr_no x 1 (by decide) (by
            rw [Bool.eq_false_iff]
            exact fun k => h ((frB_iff _ _ _).1 k)))
          have HE : Hid (eE x = 1) := by
            show eE x = 1
            unfold eE
            rw [HO2.out]
            rfl
          clear HO
          by_cases h1 : x.l < 0
          · go_wp2_with fail
            go_ret
            exact ⟨by rw [HE.out]; rfl, (HB.out.alloc _).bel⟩
          · have h2 : 4 < x.l := by omega
            go_wp2_with fail
            go_ret
            exact ⟨by rw [HE.out]; rfl, (HB.out.alloc _).bel⟩
      · have C1 : Hid (_) := HB.out.blk 1 (w.heap.size + 1) _ rfl rfl
        have d0 := C1.out.cell 6 _ rfl
        have d1 := C1.out.cell 7 _ rfl
        have d2 := C1.out.cell 8 _ rfl
        have dl := C1.out.lt
        clear hlt
        by_cases h : 1 ≤ x.c ∧ x.c ≤ 20
        · have HO2 : Hid (okE x = okFr x 3) := HO.out.trans (okFr_yes x 2 (by decide) ((frB_iff _ _ _).2 h))
          obtain ⟨h1, h2⟩ := h
          clear HO
          go_wp2_with fail
          go_roundg (4 - 2)
          case measure => exact Hg.out
          case rel => exact ⟨3, rfl, (by decide : 4 - 3 < 4 - 2), (by decide : 3 ≤ 4), HO2.out, HB.out.alloc _⟩
        · have HO2 : Hid (okE x = false) := HO.out.trans (okFr_no x 2 (by decide) (by
            rw [Bool.eq_false_iff]
            exact fun k => h ((frB_iff _ _ _).1 k)))
          have HE : Hid (eE x = 1) := by
            show eE x = 1
            unfold eE
            rw [HO2.out]
            rfl
          clear HO
          by_cases h1 : x.c < 1
          · go_wp2_with fail
            go_ret
            exact ⟨by rw [HE.out]; rfl, (HB.out.alloc _).bel⟩
          · have h2 : 20 < x.c := by omega
            go_wp2_with fail
            go_ret
            exact ⟨by rw [HE.out]; rfl, (HB.out.alloc _).bel⟩
      · have C1 : Hid (_) := HB.out.blk 1 (w.heap.size + 1) _ rfl rfl
        have d0 := C1.out.cell 9 _ rfl
        have d1 := C1.out.cell 10 _ rfl
        have d2 := C1.out.cell 11 _ rfl
        have dl := C1.out.lt
        clear hlt
        by_cases h : 1 ≤ x.m ∧ x.m ≤ 9999
        · have HO2 : Hid (okE x = okFr x 4) := HO.out.trans (okFr_yes x 3 (by decide) ((frB_iff _ _ _).2 h))
          obtain ⟨h1, h2⟩ := h
          clear HO
          go_wp2_with fail
          go_roundg (4 - 3)
          case measure => exact Hg.out
          case rel => exact ⟨4, rfl, (by decide : 4 - 4 < 4 - 3), (by decide : 4 ≤ 4), HO2.out, HB.out.alloc _⟩
        · have HO2 : Hid (okE x = false) := HO.out.trans (okFr_no x 3 (by decide) (by
            rw [Bool.eq_false_iff]
            exact fun k => h ((frB_iff _ _ _).1 k)))
          have HE : Hid (eE x = 1) := by
            show eE x = 1
            unfold eE
            rw [HO2.out]
            rfl
          clear HO
          by_cases h1 : x.m < 1
          · go_wp2_with fail
            go_ret
            exact ⟨by rw [HE.out]; rfl, (HB.out.alloc _).bel⟩
          · have h2 : 9999 < x.m := by omega
            go_wp2_with fail
            go_ret
            exact ⟨by rw [HE.out]; rfl, (HB.out.alloc _).bel⟩
    · obtain rfl : q = 4 := by have := Hq.out; omega
      have HE : Hid (eE x = 0) := by
        show eE x = 0
        unfold eE
        rw [show okE x = true from HO.out]
        rfl
      go_wp2_with fail
      go_ret
      exact ⟨by rw [HE.out]; rfl, HB.out.bel⟩

theorem mayB_cases (x y : En) : (decide (x.f < y.f) = true ∧ mayB x y = false) ∨ (decide (x.f < y.f) = false ∧ (y.l == x.l) = false ∧ mayB x y = true) ∨ (decide (x.f < y.f) = false ∧ (y.l == x.l) = true ∧ (y.c == x.c) = false ∧ mayB x y = true) ∨ (decide (x.f < y.f) = false ∧ (y.l == x.l) = true ∧ (y.c == x.c) = true ∧ mayB x y = false) := by
  unfold mayB alB
  by_cases h1 : x.f < y.f
  · left
    refine ⟨by simpa using h1, ?_⟩
    rw [decide_eq_false (by omega : ¬ y.f ≤ x.f)]
    rfl
  · right
    have h1' : decide (x.f < y.f) = false := by simpa using h1
    rw [decide_eq_true (by omega : y.f ≤ x.f)]
    by_cases h2 : x.l = y.l
    · right
      by_cases h3 : x.c = y.c
      · right
        exact ⟨h1', by simp [h2], by simp [h3], by simp [h2, h3]⟩
      · left
        exact ⟨h1', by simp [h2], by simpa using fun k => h3 k.symm, by simp [h2, h3]⟩
    · left
      exact ⟨h1', by simpa using fun k => h2 k.symm, by simp [h2]⟩

set_option maxHeartbeats 8000000 in
set_option maxRecDepth 100000 in
theorem rlogErr_small (a : Option Addr) (n c : Nat) (l : Nat → En) (w : World) (hn : n ≤ 32) (h : RowE w a n l) :
    Calls Tryd.prog 6 #[.slice a n c] w fun e w' => e = .returned (.int .i64 (fsE l n)) ∧ Below w.heap.size w w' := by
  have HR : Hid (RowE w a n l) := h
  clear h
  have C1 : Hid (_) := entryErr_any
  have z2 : ¬ (32 : Int) < (n : Int) := by omega
  go_enter Tryd.func6, Tryd.ntmps6
  go_wp2_with fail
  go_loopg [10] (n + 1) (fun g s wr => ∃ q : Nat, s = .int .i64 q ∧ n - q < g ∧ q ≤ n ∧ fsE l q = 0 ∧ Hid (Below w.heap.size w wr))
  case atStart => exact ⟨0, rfl, by omega, by omega, rfl, Below.refl _ _⟩
  case round =>
    obtain ⟨q, rfl, hg, hq, hf, hB⟩ := hrel
    have HF : Hid (fsE l q = 0) := hf
    clear hf
    by_cases hlt : q < n
    · have z1 : (q : Int) < (n : Int) := by omega
      have HQ : Hid (RowE wr a n l) := HR.out.step hB.out
      obtain ⟨b, o, rfl, hb, hc⟩ := HQ.out (by omega)
      obtain ⟨x0, x1, x2, x3⟩ := hc q hlt
      go_wp2_with fail
      refine (C1.out _ _).mono ?_
      rintro e w1 ⟨rfl, hb1⟩
      have B1 : Hid (Below w.heap.size w w1) := below_then hB.out hb1 hB.out.size
      have L1 : Hid (b < w1.heap.size) := by
        show b < w1.heap.size
        have := hb1.size
        omega
      have HC : Hid (∀ j, j < n → EAt w1 b (o + j * 4) (l j)) := fun j hj => (hc j hj).step hb1 hb
      clear hb1 hc x0 x1 x2 x3
      rcases twoB (okE (l q)) with h1 | h1
      · have Q : Hid (fsE l n = 1) := (fsE_first HF.out (by rw [wrE_arg h1]; decide) hlt).trans (wrE_arg h1)
        rw [show eE (l q) = 1 by unfold eE; rw [h1]; rfl]
        go_wp2_with fail
        go_ret
        exact ⟨by rw [Q.out]; rfl, B1.out⟩
      · have H1 : Hid (okE (l q) = true) := h1
        rw [show eE (l q) = 0 by unfold eE; rw [h1]; rfl]
        by_cases e0 : q = 0
        · subst e0
          have HN : Hid (fsE l (0 + 1) = 0) := fsE_next HF.out (wrE_ok h1 (fun k => absurd k (by omega)))
          go_wp2_with fail
          go_roundg (n - (0 + 1) + 1)
          case measure => omega
          case rel => exact ⟨0 + 1, by go_num, by omega, by omega, HN.out, B1.out⟩
        · obtain ⟨k, rfl⟩ : ∃ k, q = k + 1 := ⟨q - 1, by omega⟩
          obtain ⟨x0, x1, x2, x3⟩ := HC.out (k + 1) hlt
          obtain ⟨p0, p1, p2, p3⟩ := HC.out k (by omega)
          have z4 : (k : Int) < (n : Int) := by omega
          clear h1
          have e1 : ((k + 1 : Nat) : Int) ≠ 0 := by omega
          have z5 : IntKind.i64.wrap (k : Int) = (k : Int) := by rw [IntKind.wrap_i64]; omega
          have z6 : (0 : Int) ≤ (k : Int) := by omega
          have z7 : (0 : Int) ≤ ((k + 1 : Nat) : Int) := by omega
          rcases mayB_cases (l (k + 1)) (l k) with ⟨m1, h2⟩ | ⟨m1, m2, h2⟩ | ⟨m1, m2, m3, h2⟩ | ⟨m1, m2, m3, h2⟩
          · have Q : Hid (fsE l n = 4) := (fsE_first HF.out (by rw [wrE_form H1.out (by omega) h2]; decide) hlt).trans (wrE_form H1.out (by omega) h2)
            clear h2
            go_wp2_with fail
            go_big_quiet (fail)
            go_wp2_with fail
            go_ret
            exact ⟨by rw [Q.out]; rfl, below_dN B1.out _⟩
          · have HN : Hid (fsE l (k + 1 + 1) = 0) := fsE_next HF.out (wrE_ok H1.out (fun _ => h2))
            clear h2
            go_wp2_with fail
            go_big_quiet (fail)
            go_wp2_with fail
            go_roundg (n - (k + 1 + 1) + 1)
            case measure => omega
            case rel => exact ⟨k + 1 + 1, by go_num, by omega, by omega, HN.out, below_dN B1.out _⟩
          · have HN : Hid (fsE l (k + 1 + 1) = 0) := fsE_next HF.out (wrE_ok H1.out (fun _ => h2))
            clear h2
            go_wp2_with fail
            go_big_quiet (fail)
            go_wp2_with fail
            go_roundg (n - (k + 1 + 1) + 1)
            case measure => omega
            case rel => exact ⟨k + 1 + 1, by go_num, by omega, by omega, HN.out, below_dN B1.out _⟩
          · have Q : Hid (fsE l n = 4) := (fsE_first HF.out (by rw [wrE_form H1.out (by omega) h2]; decide) hlt).trans (wrE_form H1.out (by omega) h2)
            clear h2
            go_wp2_with fail
            go_big_quiet (fail)
            go_wp2_with fail
            go_ret
            exact ⟨by rw [Q.out]; rfl, below_dN B1.out _⟩
    · have z1 : ¬ (q : Int) < (n : Int) := by omega
      obtain rfl : q = n := by omega
      go_wp2_with fail
      go_ret
      exact ⟨by rw [HF.out]; rfl, hB.out⟩

set_option maxHeartbeats 1000000 in
theorem rlogErr_large (a : Option Addr) (n c : Nat) (hn : 32 < n) (w : World) : Calls Tryd.prog 6 #[.slice a n c] w fun e w' => e = .returned (.int .i64 2) ∧ Below w.heap.size w w' := by
  have z2 : (32 : Int) < (n : Int) := by omega
  go_enter Tryd.func6, Tryd.ntmps6
  go_wp2_with fail
  go_ret
  exact ⟨rfl, Below.refl _ _⟩

theorem rlogErr_any (a : Option Addr) (n c : Nat) (l : Nat → En) (w : World) (h : RowE w a n l) :
    Calls Tryd.prog 6 #[.slice a n c] w fun e w' => e = .returned (.int .i64 (chE l n)) ∧ Below w.heap.size w w' := by
  unfold chE
  split
  · exact rlogErr_large a n c (by omega) w
  · exact rlogErr_small a n c l w (by omega) h

end Go.Proofs.YtkklinjamcfppaaDoor
