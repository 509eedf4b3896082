/-
  Contracts of cuts.isLeast, over any closure that tells of a set whether something holds.
-/
import Derived.Test.YtacophekhknbpaaGatLst
import Derived.Test.YtacophekhknbpaaSetBit
import Derived.Laws.EntriesVeiled
import Derived.Laws.AppendOwn
namespace Go.Proofs.Ytacophekhknbpaa
open Go.RowKit
set_option linter.unusedVariables false

/-- it is a function of the program's own, with a body -/
def EntF (FN : Nat) : Prop := ∀ (args : Array Value) (W : World), (callFunc FN args).run Try.prog W = .ok (.enter FN args) W
/-- a function over one pointer that it captured tells of a set whether something holds, whatever else lies in memory -/
def HoldsC (FN : Nat) (P : Addr) (w : World) (F : Nat → Bool) : Prop := ∀ (W : World) (s : Nat), s < 256 → Below w.heap.size w W → Calls Try.prog FN #[.int .u16 s, .pointer (some P)] W fun e w' => e = .returned (.bool (F s)) ∧ Below W.heap.size W w'
theorem HoldsC.step {FN : Nat} {P : Addr} {w w' : World} {F : Nat → Bool} (h : HoldsC FN P w F) (hb : Below w.heap.size w w') : HoldsC FN P w' F := fun W s hs hW => h W s hs (hb.trans (hW.mono hb.size))

set_option maxHeartbeats 4000000 in
set_option maxRecDepth 100000 in
theorem isLeast_any (FN : Nat) (P : Addr) (F : Nat → Bool) (s : Nat) (w : World) (hs : s < 256) (hent : EntF FN) (C0 : HoldsC FN P w F) :
    Calls Try.prog 49 #[.int .u16 s, .func (.func FN) #[] #[.pointer (some P)]] w fun e w' => e = .returned (.bool (isL F s)) ∧ Below w.heap.size w w' := by
  have C : Hid (HoldsC FN P w F) := C0
  have HS : Hid (s < 256) := hs
  obtain ⟨E, hE⟩ : ∃ E, isL F s = E := ⟨_, rfl⟩
  have K0 : Hid (F s = false → E = false) := fun h => by
    rw [← hE]
    unfold isL
    rw [h]
    rfl
  have K1 : Hid (∀ j, j < 8 → clr s j ≠ s → F (clr s j) = true → E = false) := fun j hj h1 h2 => by
    cases e : E
    · rfl
    · rw [e] at hE
      have := (isL_iff.1 hE).2 j hj h1
      rw [h2] at this
      cases this
  have K2 : Hid (F s = true → lsB F s 8 = true → E = true) := fun h1 h2 => by
    rw [← hE]
    unfold isL
    rw [h1, h2]
    rfl
  rw [hE]
  have hent : ∀ (args : Array Value) (W : World), (callFunc FN args).run Try.prog W = .ok (.enter FN args) W := hent
  clear C0 hs hE
  go_enter Try.func49, Try.ntmps49
  go_wp2_with fail
  refine (C.out _ s HS.out (Below.refl _ _)).mono ?_
  rintro e w1 ⟨rfl, hb⟩
  have B1 : Hid (Below w.heap.size w w1) := hb
  clear hb
  obtain ⟨x, hx⟩ : ∃ x, F s = x := ⟨_, rfl⟩
  rw [hx]
  have HX : Hid (F s = x) := hx
  clear hx
  cases x
  · have Q : Hid (E = false) := K0.out HX.out
    go_wp2_with fail
    go_ret
    exact ⟨by rw [Q.out]; rfl, B1.out⟩
  · go_wp2_with fail
    go_loopg [11] (8 + 1) (fun g u wr => ∃ q : Nat, u = .int .i64 q ∧ 8 - q < g ∧ q ≤ 8 ∧ Hid (lsB F s q = true) ∧ Hid (Below w.heap.size w wr))
    case atStart => exact ⟨0, rfl, by omega, by omega, rfl, B1.out⟩
    case round =>
      obtain ⟨q, rfl, hg, hq, HO, HB⟩ := hrel
      by_cases hlt : q < 8
      · have HL : Hid (lsB F s (q + 1) = (lsB F s q && !(decide (clr s q ≠ s) && F (clr s q)))) := rfl
        rcases (show q = 0 ∨ q = 1 ∨ q = 2 ∨ q = 3 ∨ q = 4 ∨ q = 5 ∨ q = 6 ∨ q = 7 by omega) with rfl | rfl | rfl | rfl | rfl | rfl | rfl | rfl
        · have x1 : bits .andNot .u16 (s : Int) 1 = ((clr s 0 : Nat) : Int) := u16_andNot_nat s 1 (by have := HS.out; omega) (by decide)
          have HZ : Hid (clr s 0 < 256) := clr_lt HS.out 0
          have KZ : Hid (clr s 0 ≠ s → F (clr s 0) = true → E = false) := K1.out 0 (by decide)
          have HL2 : Hid (lsB F s 1 = (lsB F s 0 && !(decide (clr s 0 ≠ s) && F (clr s 0)))) := HL.out
          clear HL
          generalize clr s 0 = z at x1 HZ KZ HL2
          by_cases hne : z = s
          · have HL3 : Hid (lsB F s 1 = true) := by
              rw [HL2.out, HO.out, decide_eq_false (fun h => h hne)]
              rfl
            have y : ((z : Int) != (s : Int)) = false := by rw [hne]; simp
            clear HL2 KZ hne
            go_wp2_with fail
            go_roundg (8 - (0 + 1) + 1)
            case measure => omega
            case rel => exact ⟨1, by go_num, by omega, by omega, HL3.out, HB.out⟩
          · have y : ((z : Int) != (s : Int)) = true := by simp; omega
            have HNE : Hid (z ≠ s) := hne
            clear hne
            go_wp2_with fail
            refine (C.out _ z HZ.out HB.out).mono ?_
            rintro e w2 ⟨rfl, hb⟩
            have B2 : Hid (Below w.heap.size w w2) := HB.out.trans (hb.mono HB.out.size)
            clear hb
            obtain ⟨x, hx⟩ : ∃ x, F z = x := ⟨_, rfl⟩
            rw [hx]
            have HX2 : Hid (F z = x) := hx
            clear hx
            cases x
            · have HL3 : Hid (lsB F s 1 = true) := by
                rw [HL2.out, HO.out, HX2.out, Bool.and_false]
                rfl
              go_wp2_with fail
              go_roundg (8 - (0 + 1) + 1)
              case measure => omega
              case rel => exact ⟨1, by go_num, by omega, by omega, HL3.out, B2.out⟩
            · have Q : Hid (E = false) := KZ.out HNE.out HX2.out
              go_wp2_with fail
              go_ret
              exact ⟨by rw [Q.out]; rfl, B2.out⟩
        · have x1 : bits .andNot .u16 (s : Int) 2 = ((clr s 1 : Nat) : Int) := u16_andNot_nat s 2 (by have := HS.out; omega) (by decide)
          have HZ : Hid (clr s 1 < 256) := clr_lt HS.out 1
          have KZ : Hid (clr s 1 ≠ s → F (clr s 1) = true → E = false) := K1.out 1 (by decide)
          have HL2 : Hid (lsB F s 2 = (lsB F s 1 && !(decide (clr s 1 ≠ s) && F (clr s 1)))) := HL.out
          clear HL
          generalize clr s 1 = z at x1 HZ KZ HL2
          by_cases hne : z = s
          · have HL3 : Hid (lsB F s 2 = true) := by
              rw [HL2.out, HO.out, decide_eq_false (fun h => h hne)]
              rfl
            have y : ((z : Int) != (s : Int)) = false := by rw [hne]; simp
            clear HL2 KZ hne
            go_wp2_with fail
            go_roundg (8 - (1 + 1) + 1)
            case measure => omega
            case rel => exact ⟨2, by go_num, by omega, by omega, HL3.out, HB.out⟩
          · have y : ((z : Int) != (s : Int)) = true := by simp; omega
            have HNE : Hid (z ≠ s) := hne
            clear hne
            go_wp2_with fail
            refine (C.out _ z HZ.out HB.out).mono ?_
            rintro e w2 ⟨rfl, hb⟩
            have B2 : Hid (Below w.heap.size w w2) := HB.out.trans (hb.mono HB.out.size)
            clear hb
            obtain ⟨x, hx⟩ : ∃ x, F z = x := ⟨_, rfl⟩
            rw [hx]
            have HX2 : Hid (F z = x) := hx
            clear hx
            cases x
            · have HL3 : Hid (lsB F s 2 = true) := by
                rw [HL2.out, HO.out, HX2.out, Bool.and_false]
                rfl
              go_wp2_with fail
              go_roundg (8 - (1 + 1) + 1)
              case measure => omega
              case rel => exact ⟨2, by go_num, by omega, by omega, HL3.out, B2.out⟩
            · have Q : Hid (E = false) := KZ.out HNE.out HX2.out
              go_wp2_with fail
              go_ret
              exact ⟨by rw [Q.out]; rfl, B2.out⟩
        · have x1 : bits .andNot .u16 (s : Int) 4 = ((clr s 2 : Nat) : Int) := u16_andNot_nat s 4 (by have := HS.out; omega) (by decide)
          have HZ : Hid (clr s 2 < 256) := clr_lt HS.out 2
          have KZ : Hid (clr s 2 ≠ s → F (clr s 2) = true → E = false) := K1.out 2 (by decide)
          have HL2 : Hid (lsB F s 3 = (lsB F s 2 && !(decide (clr s 2 ≠ s) && F (clr s 2)))) := HL.out
          clear HL
          generalize clr s 2 = z at x1 HZ KZ HL2
          by_cases hne : z = s
          · have HL3 : Hid (lsB F s 3 = true) := by
              rw [HL2.out, HO.out, decide_eq_false (fun h => h hne)]
              rfl
            have y : ((z : Int) != (s : Int)) = false := by rw [hne]; simp
            clear HL2 KZ hne
            go_wp2_with fail
            go_roundg (8 - (2 + 1) + 1)
            case measure => omega
            case rel => exact ⟨3, by go_num, by omega, by omega, HL3.out, HB.out⟩
          · have y : ((z : Int) != (s : Int)) = true := by simp; omega
            have HNE : Hid (z ≠ s) := hne
            clear hne
            go_wp2_with fail
            refine (C.out _ z HZ.out HB.out).mono ?_
            rintro e w2 ⟨rfl, hb⟩
            have B2 : Hid (Below w.heap.size w w2) := HB.out.trans (hb.mono HB.out.size)
            clear hb
            obtain ⟨x, hx⟩ : ∃ x, F z = x := ⟨_, rfl⟩
            rw [hx]
            have HX2 : Hid (F z = x) := hx
            clear hx
            cases x
            · have HL3 : Hid (lsB F s 3 = true) := by
                rw [HL2.out, HO.out, HX2.out, Bool.and_false]
                rfl
              go_wp2_with fail
              go_roundg (8 - (2 + 1) + 1)
              case measure => omega
              case rel => exact ⟨3, by go_num, by omega, by omega, HL3.out, B2.out⟩
            · have Q : Hid (E = false) := KZ.out HNE.out HX2.out
              go_wp2_with fail
              go_ret
              exact ⟨by rw [Q.out]; rfl, B2.out⟩
        · have x1 : bits .andNot .u16 (s : Int) 8 = ((clr s 3 : Nat) : Int) := u16_andNot_nat s 8 (by have := HS.out; omega) (by decide)
          have HZ : Hid (clr s 3 < 256) := clr_lt HS.out 3
          have KZ : Hid (clr s 3 ≠ s → F (clr s 3) = true → E = false) := K1.out 3 (by decide)
          have HL2 : Hid (lsB F s 4 = (lsB F s 3 && !(decide (clr s 3 ≠ s) && F (clr s 3)))) := HL.out
          clear HL
          generalize clr s 3 = z at x1 HZ KZ HL2
          by_cases hne : z = s
          · have HL3 : Hid (lsB F s 4 = true) := by
              rw [HL2.out, HO.out, decide_eq_false (fun h => h hne)]
              rfl
            have y : ((z : Int) != (s : Int)) = false := by rw [hne]; simp
            clear HL2 KZ hne
            go_wp2_with fail
            go_roundg (8 - (3 + 1) + 1)
            case measure => omega
            case rel => exact ⟨4, by go_num, by omega, by omega, HL3.out, HB.out⟩
          · have y : ((z : Int) != (s : Int)) = true := by simp; omega
            have HNE : Hid (z ≠ s) := hne
            clear hne
            go_wp2_with fail
            refine (C.out _ z HZ.out HB.out).mono ?_
            rintro e w2 ⟨rfl, hb⟩
            have B2 : Hid (Below w.heap.size w w2) := HB.out.trans (hb.mono HB.out.size)
            clear hb
            obtain ⟨x, hx⟩ : ∃ x, F z = x := ⟨_, rfl⟩
            rw [hx]
            have HX2 : Hid (F z = x) := hx
            clear hx
            cases x
            · have HL3 : Hid (lsB F s 4 = true) := by
                rw [HL2.out, HO.out, HX2.out, Bool.and_false]
                rfl
              go_wp2_with fail
              go_roundg (8 - (3 + 1) + 1)
              case measure => omega
              case rel => exact ⟨4, by go_num, by omega, by omega, HL3.out, B2.out⟩
            · have Q : Hid (E = false) := KZ.out HNE.out HX2.out
              go_wp2_with fail
              go_ret
              exact ⟨by rw [Q.out]; rfl, B2.out⟩
        · have x1 : bits .andNot .u16 (s : Int) 16 = ((clr s 4 : Nat) : Int) := u16_andNot_nat s 16 (by have := HS.out; omega) (by decide)
          have HZ : Hid (clr s 4 < 256) := clr_lt HS.out 4
          have KZ : Hid (clr s 4 ≠ s → F (clr s 4) = true → E = false) := K1.out 4 (by decide)
          have HL2 : Hid (lsB F s 5 = (lsB F s 4 && !(decide (clr s 4 ≠ s) && F (clr s 4)))) := HL.out
          clear HL
          generalize clr s 4 = z at x1 HZ KZ HL2
          by_cases hne : z = s
          · have HL3 : Hid (lsB F s 5 = true) := by
              rw [HL2.out, HO.out, decide_eq_false (fun h => h hne)]
              rfl
            have y : ((z : Int) != (s : Int)) = false := by rw [hne]; simp
            clear HL2 KZ hne
            go_wp2_with fail
            go_roundg (8 - (4 + 1) + 1)
            case measure => omega
            case rel => exact ⟨5, by go_num, by omega, by omega, HL3.out, HB.out⟩
          · have y : ((z : Int) != (s : Int)) = true := by simp; omega
            have HNE : Hid (z ≠ s) := hne
            clear hne
            go_wp2_with fail
            refine (C.out _ z HZ.out HB.out).mono ?_
            rintro e w2 ⟨rfl, hb⟩
            have B2 : Hid (Below w.heap.size w w2) := HB.out.trans (hb.mono HB.out.size)
            clear hb
            obtain ⟨x, hx⟩ : ∃ x, F z = x := ⟨_, rfl⟩
            rw [hx]
            have HX2 : Hid (F z = x) := hx
            clear hx
            cases x
            · have HL3 : Hid (lsB F s 5 = true) := by
                rw [HL2.out, HO.out, HX2.out, Bool.and_false]
                rfl
              go_wp2_with fail
              go_roundg (8 - (4 + 1) + 1)
              case measure => omega
              case rel => exact ⟨5, by go_num, by omega, by omega, HL3.out, B2.out⟩
            · have Q : Hid (E = false) := KZ.out HNE.out HX2.out
              go_wp2_with fail
              go_ret
              exact ⟨by rw [Q.out]; rfl, B2.out⟩
        · have x1 : bits .andNot .u16 (s : Int) 32 = ((clr s 5 : Nat) : Int) := u16_andNot_nat s 32 (by have := HS.out; omega) (by decide)
          have HZ : Hid (clr s 5 < 256) := clr_lt HS.out 5
          have KZ : Hid (clr s 5 ≠ s → F (clr s 5) = true → E = false) := K1.out 5 (by decide)
          have HL2 : Hid (lsB F s 6 = (lsB F s 5 && !(decide (clr s 5 ≠ s) && F (clr s 5)))) := HL.out
          clear HL
          generalize clr s 5 = z at x1 HZ KZ HL2
          by_cases hne : z = s
          · have HL3 : Hid (lsB F s 6 = true) := by
              rw [HL2.out, HO.out, decide_eq_false (fun h => h hne)]
              rfl
            have y : ((z : Int) != (s : Int)) = false := by rw [hne]; simp
            clear HL2 KZ hne
            go_wp2_with fail
            go_roundg (8 - (5 + 1) + 1)
            case measure => omega
            case rel => exact ⟨6, by go_num, by omega, by omega, HL3.out, HB.out⟩
          · have y : ((z : Int) != (s : Int)) = true := by simp; omega
            have HNE : Hid (z ≠ s) := hne
            clear hne
            go_wp2_with fail
            refine (C.out _ z HZ.out HB.out).mono ?_
            rintro e w2 ⟨rfl, hb⟩
            have B2 : Hid (Below w.heap.size w w2) := HB.out.trans (hb.mono HB.out.size)
            clear hb
            obtain ⟨x, hx⟩ : ∃ x, F z = x := ⟨_, rfl⟩
            rw [hx]
            have HX2 : Hid (F z = x) := hx
            clear hx
            cases x
            · have HL3 : Hid (lsB F s 6 = true) := by
                rw [HL2.out, HO.out, HX2.out, Bool.and_false]
                rfl
              go_wp2_with fail
              go_roundg (8 - (5 + 1) + 1)
              case measure => omega
              case rel => exact ⟨6, by go_num, by omega, by omega, HL3.out, B2.out⟩
            · have Q : Hid (E = false) := KZ.out HNE.out HX2.out
              go_wp2_with fail
              go_ret
              exact ⟨by rw [Q.out]; rfl, B2.out⟩
        · have x1 : bits .andNot .u16 (s : Int) 64 = ((clr s 6 : Nat) : Int) := u16_andNot_nat s 64 (by have := HS.out; omega) (by decide)
          have HZ : Hid (clr s 6 < 256) := clr_lt HS.out 6
          have KZ : Hid (clr s 6 ≠ s → F (clr s 6) = true → E = false) := K1.out 6 (by decide)
          have HL2 : Hid (lsB F s 7 = (lsB F s 6 && !(decide (clr s 6 ≠ s) && F (clr s 6)))) := HL.out
          clear HL
          generalize clr s 6 = z at x1 HZ KZ HL2
          by_cases hne : z = s
          · have HL3 : Hid (lsB F s 7 = true) := by
              rw [HL2.out, HO.out, decide_eq_false (fun h => h hne)]
              rfl
            have y : ((z : Int) != (s : Int)) = false := by rw [hne]; simp
            clear HL2 KZ hne
            go_wp2_with fail
            go_roundg (8 - (6 + 1) + 1)
            case measure => omega
            case rel => exact ⟨7, by go_num, by omega, by omega, HL3.out, HB.out⟩
          · have y : ((z : Int) != (s : Int)) = true := by simp; omega
            have HNE : Hid (z ≠ s) := hne
            clear hne
            go_wp2_with fail
            refine (C.out _ z HZ.out HB.out).mono ?_
            rintro e w2 ⟨rfl, hb⟩
            have B2 : Hid (Below w.heap.size w w2) := HB.out.trans (hb.mono HB.out.size)
            clear hb
            obtain ⟨x, hx⟩ : ∃ x, F z = x := ⟨_, rfl⟩
            rw [hx]
            have HX2 : Hid (F z = x) := hx
            clear hx
            cases x
            · have HL3 : Hid (lsB F s 7 = true) := by
                rw [HL2.out, HO.out, HX2.out, Bool.and_false]
                rfl
              go_wp2_with fail
              go_roundg (8 - (6 + 1) + 1)
              case measure => omega
              case rel => exact ⟨7, by go_num, by omega, by omega, HL3.out, B2.out⟩
            · have Q : Hid (E = false) := KZ.out HNE.out HX2.out
              go_wp2_with fail
              go_ret
              exact ⟨by rw [Q.out]; rfl, B2.out⟩
        · have x1 : bits .andNot .u16 (s : Int) 128 = ((clr s 7 : Nat) : Int) := u16_andNot_nat s 128 (by have := HS.out; omega) (by decide)
          have HZ : Hid (clr s 7 < 256) := clr_lt HS.out 7
          have KZ : Hid (clr s 7 ≠ s → F (clr s 7) = true → E = false) := K1.out 7 (by decide)
          have HL2 : Hid (lsB F s 8 = (lsB F s 7 && !(decide (clr s 7 ≠ s) && F (clr s 7)))) := HL.out
          clear HL
          generalize clr s 7 = z at x1 HZ KZ HL2
          by_cases hne : z = s
          · have HL3 : Hid (lsB F s 8 = true) := by
              rw [HL2.out, HO.out, decide_eq_false (fun h => h hne)]
              rfl
            have y : ((z : Int) != (s : Int)) = false := by rw [hne]; simp
            clear HL2 KZ hne
            go_wp2_with fail
            go_roundg (8 - (7 + 1) + 1)
            case measure => omega
            case rel => exact ⟨8, by go_num, by omega, by omega, HL3.out, HB.out⟩
          · have y : ((z : Int) != (s : Int)) = true := by simp; omega
            have HNE : Hid (z ≠ s) := hne
            clear hne
            go_wp2_with fail
            refine (C.out _ z HZ.out HB.out).mono ?_
            rintro e w2 ⟨rfl, hb⟩
            have B2 : Hid (Below w.heap.size w w2) := HB.out.trans (hb.mono HB.out.size)
            clear hb
            obtain ⟨x, hx⟩ : ∃ x, F z = x := ⟨_, rfl⟩
            rw [hx]
            have HX2 : Hid (F z = x) := hx
            clear hx
            cases x
            · have HL3 : Hid (lsB F s 8 = true) := by
                rw [HL2.out, HO.out, HX2.out, Bool.and_false]
                rfl
              go_wp2_with fail
              go_roundg (8 - (7 + 1) + 1)
              case measure => omega
              case rel => exact ⟨8, by go_num, by omega, by omega, HL3.out, B2.out⟩
            · have Q : Hid (E = false) := KZ.out HNE.out HX2.out
              go_wp2_with fail
              go_ret
              exact ⟨by rw [Q.out]; rfl, B2.out⟩
      · obtain rfl : q = 8 := by omega
        have Q : Hid (E = true) := K2.out HX.out HO.out
        go_wp2_with fail
        go_ret
        exact ⟨by rw [Q.out]; rfl, HB.out⟩

end Go.Proofs.Ytacophekhknbpaa
