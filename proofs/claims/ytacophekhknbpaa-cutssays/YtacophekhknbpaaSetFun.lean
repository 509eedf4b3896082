/-
  slices.IndexFunc and slices.ContainsFunc of sets, over any function that tells of each.
-/
import Derived.Test.YtacophekhknbpaaGatCut
import Derived.Test.YtacophekhknbpaaSetRow
namespace Go.Proofs.Ytacophekhknbpaa
open Go.RowKit
set_option linter.unusedVariables false

/-- is one of the first so many true? -/
def anyU (G : Nat → Bool) : Nat → Bool
  | 0 => false
  | n + 1 => anyU G n || G n
theorem anyU_yes {G : Nat → Bool} {j n : Nat} (hj : j < n) (h : G j = true) : anyU G n = true := by
  induction n with
  | zero => omega
  | succ n ih =>
    show (anyU G n || G n) = true
    rcases (show j < n ∨ j = n by omega) with q | rfl
    · rw [ih q]
      rfl
    · simp [h]
theorem anyU_no {G : Nat → Bool} {n : Nat} (h : anyU G n = false) {j : Nat} (hj : j < n) : G j = false := by
  cases q : G j
  · rfl
  · rw [anyU_yes hj q] at h
    cases h
theorem anyU_iff {G : Nat → Bool} {n : Nat} : anyU G n = true ↔ ∃ j, j < n ∧ G j = true := by
  constructor
  · intro h
    induction n with
    | zero => cases h
    | succ n ih =>
      have h2 : (anyU G n || G n) = true := h
      rw [Bool.or_eq_true] at h2
      rcases h2 with h2 | h2
      · obtain ⟨j, hj, hg⟩ := ih h2
        exact ⟨j, by omega, hg⟩
      · exact ⟨n, by omega, h2⟩
  · rintro ⟨j, hj, hg⟩
    exact anyU_yes hj hg
theorem anyU_list (p : Nat → Bool) (l : List Nat) : anyU (fun j => p (l.getD j 0)) l.length = l.any p := by
  rw [Bool.eq_iff_iff, anyU_iff, List.any_eq_true]
  constructor
  · rintro ⟨j, hj, h⟩
    refine ⟨l.getD j 0, ?_, h⟩
    rw [List.getD_eq_getElem?_getD, List.getElem?_eq_getElem hj]
    exact List.getElem_mem hj
  · rintro ⟨x, hx, h⟩
    obtain ⟨j, hj, rfl⟩ := List.getElem_of_mem hx
    refine ⟨j, hj, ?_⟩
    rw [List.getD_eq_getElem?_getD, List.getElem?_eq_getElem hj]
    exact h

/-- what a function tells of each of a row's sets, whatever else lies in memory -/
def TellsP (FN : Nat) (P : Addr) (w : World) (n : Nat) (f : Nat → Nat) (G : Nat → Bool) : Prop := ∀ (j : Nat) (W : World), j < n → Below w.heap.size w W → Calls Try.prog FN #[.int .u16 (f j : Nat), .pointer (some P)] W fun e w' => e = .returned (.bool (G j)) ∧ Below W.heap.size W w'

set_option maxHeartbeats 2000000 in
set_option maxRecDepth 100000 in
theorem indexUP_any (FN : Nat) (P : Addr) (a : Option Addr) (n c : Nat) (f : Nat → Nat) (G : Nat → Bool) (w : World) (hn : n ≤ 100000) (h : RS w a n f) (hent : EntF FN) (C0 : TellsP FN P w n f G) :
    Calls Try.prog 43 #[.slice a n c, .func (.func FN) #[] #[.pointer (some P)]] w fun e w' => ∃ i : Int, e = .returned (.int .i64 i) ∧ (anyU G n = true ∧ 0 ≤ i ∨ anyU G n = false ∧ i = -1) ∧ Below w.heap.size w w' := by
  have C : Hid (TellsP FN P w n f G) := C0
  have HR : Hid (RS w a n f) := h
  have hent : ∀ (args : Array Value) (W : World), (callFunc FN args).run Try.prog W = .ok (.enter FN args) W := hent
  have HN : Hid (n ≤ 100000) := hn
  clear C0 h hn
  go_enter Try.func43, Try.ntmps43
  go_wp2_with fail
  go_loopg [8] (n + 1) (fun g u wr => ∃ q : Nat, u = .int .i64 q ∧ n - q < g ∧ q ≤ n ∧ Hid (anyU G q = false) ∧ Hid (Below w.heap.size w wr))
  case atStart => exact ⟨0, rfl, by omega, by omega, rfl, Below.refl _ _⟩
  case round =>
    obtain ⟨q, rfl, hg, hq, HM, HB⟩ := hrel
    by_cases hlt : q < n
    · have z1 : (q : Int) < (n : Int) := by omega
      have z2 : (q : Int) < 100000 := by have := HN.out; omega
      obtain ⟨b, o, rfl, hb, hc⟩ := (HR.out.step HB.out) (by omega)
      have x0 := hc q hlt
      clear hc
      have C1 := C.out q _ hlt HB.out
      have KY : Hid (G q = true → anyU G n = true) := fun h => anyU_yes hlt h
      have KN : Hid (G q = false → anyU G (q + 1) = false) := fun h => by
        show (anyU G q || G q) = false
        rw [HM.out, h]
        rfl
      obtain ⟨x, hx⟩ : ∃ x, G q = x := ⟨_, rfl⟩
      rw [hx] at C1 KY KN
      clear hx
      cases x
      · have Q := KN.out rfl
        have Q2 : Hid (_) := Q
        clear KY KN Q
        go_wp2_with fail
        refine C1.mono ?_
        rintro e w2 ⟨rfl, hb2⟩
        have B2 : Hid (Below w.heap.size w w2) := HB.out.trans (hb2.mono HB.out.size)
        clear hb2 C1 x0
        go_wp2_with fail
        go_roundg (n - (q + 1) + 1)
        case measure => omega
        case rel => exact ⟨q + 1, by go_num, by omega, by omega, Q2.out, B2.out⟩
      · have Q : Hid (anyU G n = true) := KY.out rfl
        clear KY KN
        go_wp2_with fail
        refine C1.mono ?_
        rintro e w2 ⟨rfl, hb2⟩
        have B2 : Hid (Below w.heap.size w w2) := HB.out.trans (hb2.mono HB.out.size)
        clear hb2 C1 x0
        go_wp2_with fail
        go_ret
        exact ⟨(q : Int), rfl, Or.inl ⟨Q.out, by omega⟩, B2.out⟩
    · have z1 : ¬ (q : Int) < (n : Int) := by omega
      obtain rfl : q = n := by omega
      go_wp2_with fail
      go_ret
      exact ⟨-1, rfl, Or.inr ⟨HM.out, rfl⟩, HB.out⟩

theorem containsUP_any (FN : Nat) (P : Addr) (a : Option Addr) (n c : Nat) (f : Nat → Nat) (G : Nat → Bool) (w : World) (hn : n ≤ 100000) (h : RS w a n f) (hent : EntF FN) (C0 : TellsP FN P w n f G) :
    Calls Try.prog 13 #[.slice a n c, .func (.func FN) #[] #[.pointer (some P)]] w fun e w' => e = .returned (.bool (anyU G n)) ∧ Below w.heap.size w w' := by
  have C : Hid (n ≤ 100000 ∧ RS w a n f ∧ EntF FN ∧ TellsP FN P w n f G) := ⟨hn, h, hent, C0⟩
  clear C0 h hn hent
  go_enter Try.func13, Try.ntmps13
  go_wp2_with fail
  refine (indexUP_any FN P a n c f G _ C.out.1 C.out.2.1 C.out.2.2.1 C.out.2.2.2).mono ?_
  rintro e w2 ⟨i, rfl, hi, hb⟩
  have B : Hid (Below w.heap.size w w2) := hb
  clear hb C
  rcases hi with ⟨h1, h2⟩ | ⟨h1, rfl⟩
  · have H1 : Hid (anyU G n = true) := h1
    clear h1
    go_wp2_with fail
    go_ret
    exact ⟨by rw [H1.out]; rfl, B.out⟩
  · have H1 : Hid (anyU G n = false) := h1
    clear h1
    go_wp2_with fail
    go_ret
    exact ⟨by rw [H1.out]; rfl, B.out⟩

/-- what a function tells of each of a row's sets, whatever else lies in memory -/
def TellsN (FN : Nat) (w : World) (n : Nat) (f : Nat → Nat) (G : Nat → Bool) : Prop := ∀ (j : Nat) (W : World), j < n → Below w.heap.size w W → Calls Try.prog FN #[.int .u16 (f j : Nat)] W fun e w' => e = .returned (.bool (G j)) ∧ Below W.heap.size W w'

set_option maxHeartbeats 2000000 in
set_option maxRecDepth 100000 in
theorem indexUN_any (FN : Nat) (a : Option Addr) (n c : Nat) (f : Nat → Nat) (G : Nat → Bool) (w : World) (hn : n ≤ 100000) (h : RS w a n f) (hent : EntF FN) (C0 : TellsN FN w n f G) :
    Calls Try.prog 43 #[.slice a n c, .func (.func FN) #[] #[]] w fun e w' => ∃ i : Int, e = .returned (.int .i64 i) ∧ (anyU G n = true ∧ 0 ≤ i ∨ anyU G n = false ∧ i = -1) ∧ Below w.heap.size w w' := by
  have C : Hid (TellsN FN w n f G) := C0
  have HR : Hid (RS w a n f) := h
  have hent : ∀ (args : Array Value) (W : World), (callFunc FN args).run Try.prog W = .ok (.enter FN args) W := hent
  have HN : Hid (n ≤ 100000) := hn
  clear C0 h hn
  go_enter Try.func43, Try.ntmps43
  go_wp2_with fail
  go_loopg [8] (n + 1) (fun g u wr => ∃ q : Nat, u = .int .i64 q ∧ n - q < g ∧ q ≤ n ∧ Hid (anyU G q = false) ∧ Hid (Below w.heap.size w wr))
  case atStart => exact ⟨0, rfl, by omega, by omega, rfl, Below.refl _ _⟩
  case round =>
    obtain ⟨q, rfl, hg, hq, HM, HB⟩ := hrel
    by_cases hlt : q < n
    · have z1 : (q : Int) < (n : Int) := by omega
      have z2 : (q : Int) < 100000 := by have := HN.out; omega
      obtain ⟨b, o, rfl, hb, hc⟩ := (HR.out.step HB.out) (by omega)
      have x0 := hc q hlt
      clear hc
      have C1 := C.out q _ hlt HB.out
      have KY : Hid (G q = true → anyU G n = true) := fun h => anyU_yes hlt h
      have KN : Hid (G q = false → anyU G (q + 1) = false) := fun h => by
        show (anyU G q || G q) = false
        rw [HM.out, h]
        rfl
      obtain ⟨x, hx⟩ : ∃ x, G q = x := ⟨_, rfl⟩
      rw [hx] at C1 KY KN
      clear hx
      cases x
      · have Q := KN.out rfl
        have Q2 : Hid (_) := Q
        clear KY KN Q
        go_wp2_with fail
        refine C1.mono ?_
        rintro e w2 ⟨rfl, hb2⟩
        have B2 : Hid (Below w.heap.size w w2) := HB.out.trans (hb2.mono HB.out.size)
        clear hb2 C1 x0
        go_wp2_with fail
        go_roundg (n - (q + 1) + 1)
        case measure => omega
        case rel => exact ⟨q + 1, by go_num, by omega, by omega, Q2.out, B2.out⟩
      · have Q : Hid (anyU G n = true) := KY.out rfl
        clear KY KN
        go_wp2_with fail
        refine C1.mono ?_
        rintro e w2 ⟨rfl, hb2⟩
        have B2 : Hid (Below w.heap.size w w2) := HB.out.trans (hb2.mono HB.out.size)
        clear hb2 C1 x0
        go_wp2_with fail
        go_ret
        exact ⟨(q : Int), rfl, Or.inl ⟨Q.out, by omega⟩, B2.out⟩
    · have z1 : ¬ (q : Int) < (n : Int) := by omega
      obtain rfl : q = n := by omega
      go_wp2_with fail
      go_ret
      exact ⟨-1, rfl, Or.inr ⟨HM.out, rfl⟩, HB.out⟩

theorem containsUN_any (FN : Nat) (a : Option Addr) (n c : Nat) (f : Nat → Nat) (G : Nat → Bool) (w : World) (hn : n ≤ 100000) (h : RS w a n f) (hent : EntF FN) (C0 : TellsN FN w n f G) :
    Calls Try.prog 13 #[.slice a n c, .func (.func FN) #[] #[]] w fun e w' => e = .returned (.bool (anyU G n)) ∧ Below w.heap.size w w' := by
  have C : Hid (n ≤ 100000 ∧ RS w a n f ∧ EntF FN ∧ TellsN FN w n f G) := ⟨hn, h, hent, C0⟩
  clear C0 h hn hent
  go_enter Try.func13, Try.ntmps13
  go_wp2_with fail
  refine (indexUN_any FN a n c f G _ C.out.1 C.out.2.1 C.out.2.2.1 C.out.2.2.2).mono ?_
  rintro e w2 ⟨i, rfl, hi, hb⟩
  have B : Hid (Below w.heap.size w w2) := hb
  clear hb C
  rcases hi with ⟨h1, h2⟩ | ⟨h1, rfl⟩
  · have H1 : Hid (anyU G n = true) := h1
    clear h1
    go_wp2_with fail
    go_ret
    exact ⟨by rw [H1.out]; rfl, B.out⟩
  · have H1 : Hid (anyU G n = false) := h1
    clear h1
    go_wp2_with fail
    go_ret
    exact ⟨by rw [H1.out]; rfl, B.out⟩

end Go.Proofs.Ytacophekhknbpaa
