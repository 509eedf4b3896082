/-
  Contracts of package red: armed, aged, manyActive, Usable (and the document's Usable). Of the memory that was there nothing turns.
-/
import Derived.Test.YtnomceopmjlbhaaRedFor
namespace Go.Proofs.Ytnomceopmjlbhaa
open Go.RowKit
set_option linter.unusedVariables false

/-- numbers of 64 bits that lie somewhere, or none -/
def RI (W : World) (a : Option Addr) (n : Nat) (U : Nat → Nat) : Prop := 0 < n → ∃ b off, a = some ⟨b, off, none⟩ ∧ b < W.heap.size ∧ ∀ q, q < n → W.cell? ⟨b, off + q, none⟩ = some (.int .i64 ((U q : Nat) : Int))
theorem RI.step {W W' : World} {a : Option Addr} {n : Nat} {U : Nat → Nat} (h : RI W a n U) (hb : Below W.heap.size W W') : RI W' a n U := fun hn => by
  obtain ⟨b, off, rfl, h1, h2⟩ := h hn
  exact ⟨b, off, rfl, Nat.lt_of_lt_of_le h1 hb.size, fun q hq => (hb.cell (p := ⟨b, off + q, none⟩) h1).trans (h2 q hq)⟩
/-- which event a lane gets that is the q-th of those that may be used -/
def evA (q : Nat) : Int := if q < 2 then 1 else 2

set_option maxHeartbeats 16000000 in
set_option maxRecDepth 100000 in
theorem rarmed_core (A : Nat → Nat → St) (a : Option Addr) (n c : Nat) (U : Nat → Nat) (w : World) (hn : n ≤ 4) (hr : RI w a n U)
    (HC : Hid (∀ q, q < n → U q < 4 ∧ A (q + 1) = putS (A q) (U q) (A (q + 1) (U q)) ∧ ∀ W, Calls Try.prog 26 #[.agg #[.int .i64 (A q (U q)).m, .bool (A q (U q)).f, .int .i64 (A q (U q)).n], .int .i64 (evA q)] W fun r w' => r = .returned (.agg #[.int .i64 (A (q + 1) (U q)).m, .bool (A (q + 1) (U q)).f, .int .i64 (A (q + 1) (U q)).n]) ∧ Below W.heap.size W w')) :
    Calls Try.prog 22 #[.agg #[.int .i64 ((A 0) 0).m, .bool ((A 0) 0).f, .int .i64 ((A 0) 0).n, .int .i64 ((A 0) 1).m, .bool ((A 0) 1).f, .int .i64 ((A 0) 1).n, .int .i64 ((A 0) 2).m, .bool ((A 0) 2).f, .int .i64 ((A 0) 2).n, .int .i64 ((A 0) 3).m, .bool ((A 0) 3).f, .int .i64 ((A 0) 3).n], .slice a n c] w fun r w' => r = .returned (.agg #[.int .i64 ((A n) 0).m, .bool ((A n) 0).f, .int .i64 ((A n) 0).n, .int .i64 ((A n) 1).m, .bool ((A n) 1).f, .int .i64 ((A n) 1).n, .int .i64 ((A n) 2).m, .bool ((A n) 2).f, .int .i64 ((A n) 2).n, .int .i64 ((A n) 3).m, .bool ((A n) 3).f, .int .i64 ((A n) 3).n]) ∧ Below w.heap.size w w' := by
  have B0 : Hid (Bxs w [(w.heap.size, [.int .i64 ((A 0) 0).m, .bool ((A 0) 0).f, .int .i64 ((A 0) 0).n, .int .i64 ((A 0) 1).m, .bool ((A 0) 1).f, .int .i64 ((A 0) 1).n, .int .i64 ((A 0) 2).m, .bool ((A 0) 2).f, .int .i64 ((A 0) 2).n, .int .i64 ((A 0) 3).m, .bool ((A 0) 3).f, .int .i64 ((A 0) 3).n]), (w.heap.size + 1, [.int .i64 0, .bool false, .int .i64 0, .int .i64 0, .bool false, .int .i64 0, .int .i64 0, .bool false, .int .i64 0, .int .i64 0, .bool false, .int .i64 0])] _) := bxs_two w #[.int .i64 ((A 0) 0).m, .bool ((A 0) 0).f, .int .i64 ((A 0) 0).n, .int .i64 ((A 0) 1).m, .bool ((A 0) 1).f, .int .i64 ((A 0) 1).n, .int .i64 ((A 0) 2).m, .bool ((A 0) 2).f, .int .i64 ((A 0) 2).n, .int .i64 ((A 0) 3).m, .bool ((A 0) 3).f, .int .i64 ((A 0) 3).n] #[.int .i64 0, .bool false, .int .i64 0, .int .i64 0, .bool false, .int .i64 0, .int .i64 0, .bool false, .int .i64 0, .int .i64 0, .bool false, .int .i64 0] 25 25
  have HR : Hid (_) := hr
  clear hr
  go_enter Try.func22, Try.ntmps22
  go_wp2_with fail
  go_loopg [10] (n + 1) (fun g s wr => ∃ q : Nat, s = .int .i64 q ∧ n - q < g ∧ q ≤ n ∧ Hid (Bxs w [(w.heap.size, [.int .i64 ((A q) 0).m, .bool ((A q) 0).f, .int .i64 ((A q) 0).n, .int .i64 ((A q) 1).m, .bool ((A q) 1).f, .int .i64 ((A q) 1).n, .int .i64 ((A q) 2).m, .bool ((A q) 2).f, .int .i64 ((A q) 2).n, .int .i64 ((A q) 3).m, .bool ((A q) 3).f, .int .i64 ((A q) 3).n]), (w.heap.size + 1, [.int .i64 0, .bool false, .int .i64 0, .int .i64 0, .bool false, .int .i64 0, .int .i64 0, .bool false, .int .i64 0, .int .i64 0, .bool false, .int .i64 0])] wr))
  case atStart => exact ⟨0, rfl, by omega, by omega, B0⟩
  case round =>
    obtain ⟨q, rfl, hg, hq, HB⟩ := hrel
    clear B0
    by_cases hlt : q < n
    · have z1 : (q : Int) < (n : Int) := by omega
      obtain ⟨b0, off, rfl, hbl, hcell⟩ := HR.out (by omega)
      have x0' := (HB.out.bel.cell (p := ⟨b0, off + q, none⟩) hbl).trans (hcell q hlt)
      obtain ⟨hU, hP, hK⟩ := HC.out q hlt
      clear hcell
      obtain ⟨X, hX⟩ : ∃ X, X = A q := ⟨_, rfl⟩
      obtain ⟨Y, hY⟩ : ∃ Y, Y = A (q + 1) := ⟨_, rfl⟩
      rw [← hX, ← hY] at hP
      rw [← hX, ← hY] at hK
      have HB1 : Hid (Bxs w [(w.heap.size, [.int .i64 (X 0).m, .bool (X 0).f, .int .i64 (X 0).n, .int .i64 (X 1).m, .bool (X 1).f, .int .i64 (X 1).n, .int .i64 (X 2).m, .bool (X 2).f, .int .i64 (X 2).n, .int .i64 (X 3).m, .bool (X 3).f, .int .i64 (X 3).n]), (w.heap.size + 1, [.int .i64 0, .bool false, .int .i64 0, .int .i64 0, .bool false, .int .i64 0, .int .i64 0, .bool false, .int .i64 0, .int .i64 0, .bool false, .int .i64 0])] wr) := by rw [hX]; exact HB.out
      have HY : Hid (Y = A (q + 1)) := hY
      clear hX hY HB
      obtain ⟨k, hk⟩ : ∃ k, k = U q := ⟨_, rfl⟩
      rw [← hk] at x0' hU hP hK
      clear hk
      obtain rfl | rfl | rfl | rfl := cases4 hU
      · have x0 : wr.cell? ⟨b0, off + q, none⟩ = some (.int .i64 0) := x0'
        have HP : Hid (_) := hP
        clear x0' hP hU
        have cl := (HB1.out.box 0 _ _ rfl).lt
        have c0 := (HB1.out.box 0 _ _ rfl).cell 0 _ rfl
        have c1 := (HB1.out.box 0 _ _ rfl).cell 1 _ rfl
        have c2 := (HB1.out.box 0 _ _ rfl).cell 2 _ rfl
        have c3 := (HB1.out.box 0 _ _ rfl).cell 3 _ rfl
        have c4 := (HB1.out.box 0 _ _ rfl).cell 4 _ rfl
        have c5 := (HB1.out.box 0 _ _ rfl).cell 5 _ rfl
        have c6 := (HB1.out.box 0 _ _ rfl).cell 6 _ rfl
        have c7 := (HB1.out.box 0 _ _ rfl).cell 7 _ rfl
        have c8 := (HB1.out.box 0 _ _ rfl).cell 8 _ rfl
        have c9 := (HB1.out.box 0 _ _ rfl).cell 9 _ rfl
        have c10 := (HB1.out.box 0 _ _ rfl).cell 10 _ rfl
        have c11 := (HB1.out.box 0 _ _ rfl).cell 11 _ rfl
        by_cases hq2 : q < 2
        · have z2 : (q : Int) < 2 := by omega
          rw [show evA q = 1 from if_pos hq2] at hK
          have CK : Hid (_) := hK
          clear hK hq2
          go_wp2_with fail
          refine (CK.out _).mono ?_
          rintro r w5 ⟨rfl, hb⟩
          have HB2 : Hid (_) := HB1.out.step hb
          clear hb HB1 CK x0
          clear cl c0 c1 c2 c3 c4 c5 c6 c7 c8 c9 c10 c11
          have cl := (HB2.out.box 0 _ _ rfl).lt
          have c0 := (HB2.out.box 0 _ _ rfl).cell 0 _ rfl
          have c1 := (HB2.out.box 0 _ _ rfl).cell 1 _ rfl
          have c2 := (HB2.out.box 0 _ _ rfl).cell 2 _ rfl
          have c3 := (HB2.out.box 0 _ _ rfl).cell 3 _ rfl
          have c4 := (HB2.out.box 0 _ _ rfl).cell 4 _ rfl
          have c5 := (HB2.out.box 0 _ _ rfl).cell 5 _ rfl
          have c6 := (HB2.out.box 0 _ _ rfl).cell 6 _ rfl
          have c7 := (HB2.out.box 0 _ _ rfl).cell 7 _ rfl
          have c8 := (HB2.out.box 0 _ _ rfl).cell 8 _ rfl
          have c9 := (HB2.out.box 0 _ _ rfl).cell 9 _ rfl
          have c10 := (HB2.out.box 0 _ _ rfl).cell 10 _ rfl
          have c11 := (HB2.out.box 0 _ _ rfl).cell 11 _ rfl
          have cf0 := (HB2.out.box 0 _ _ rfl).froz 0 _ rfl
          have cf1 := (HB2.out.box 0 _ _ rfl).froz 1 _ rfl
          have cf2 := (HB2.out.box 0 _ _ rfl).froz 2 _ rfl
          have cf3 := (HB2.out.box 0 _ _ rfl).froz 3 _ rfl
          have cf4 := (HB2.out.box 0 _ _ rfl).froz 4 _ rfl
          have cf5 := (HB2.out.box 0 _ _ rfl).froz 5 _ rfl
          have cf6 := (HB2.out.box 0 _ _ rfl).froz 6 _ rfl
          have cf7 := (HB2.out.box 0 _ _ rfl).froz 7 _ rfl
          have cf8 := (HB2.out.box 0 _ _ rfl).froz 8 _ rfl
          have cf9 := (HB2.out.box 0 _ _ rfl).froz 9 _ rfl
          have cf10 := (HB2.out.box 0 _ _ rfl).froz 10 _ rfl
          have cf11 := (HB2.out.box 0 _ _ rfl).froz 11 _ rfl
          go_wp2_with fail
          obtain ⟨w6, hw6, HB3'⟩ := HB2.out.lane 0 _ X rfl 0 (by omega) 0 1 2 rfl rfl rfl (Y 0)
          rw [hw6]
          rw [← HP.out, HY.out] at HB3'
          clear hw6
          go_roundg (n - (q + 1) + 1)
          case measure => omega
          case rel => exact ⟨q + 1, by go_num, by omega, by omega, HB3'⟩
        · have z2 : ¬ (q : Int) < 2 := by omega
          rw [show evA q = 2 from if_neg hq2] at hK
          have CK : Hid (_) := hK
          clear hK hq2
          go_wp2_with fail
          refine (CK.out _).mono ?_
          rintro r w5 ⟨rfl, hb⟩
          have HB2 : Hid (_) := HB1.out.step hb
          clear hb HB1 CK x0
          clear cl c0 c1 c2 c3 c4 c5 c6 c7 c8 c9 c10 c11
          have cl := (HB2.out.box 0 _ _ rfl).lt
          have c0 := (HB2.out.box 0 _ _ rfl).cell 0 _ rfl
          have c1 := (HB2.out.box 0 _ _ rfl).cell 1 _ rfl
          have c2 := (HB2.out.box 0 _ _ rfl).cell 2 _ rfl
          have c3 := (HB2.out.box 0 _ _ rfl).cell 3 _ rfl
          have c4 := (HB2.out.box 0 _ _ rfl).cell 4 _ rfl
          have c5 := (HB2.out.box 0 _ _ rfl).cell 5 _ rfl
          have c6 := (HB2.out.box 0 _ _ rfl).cell 6 _ rfl
          have c7 := (HB2.out.box 0 _ _ rfl).cell 7 _ rfl
          have c8 := (HB2.out.box 0 _ _ rfl).cell 8 _ rfl
          have c9 := (HB2.out.box 0 _ _ rfl).cell 9 _ rfl
          have c10 := (HB2.out.box 0 _ _ rfl).cell 10 _ rfl
          have c11 := (HB2.out.box 0 _ _ rfl).cell 11 _ rfl
          have cf0 := (HB2.out.box 0 _ _ rfl).froz 0 _ rfl
          have cf1 := (HB2.out.box 0 _ _ rfl).froz 1 _ rfl
          have cf2 := (HB2.out.box 0 _ _ rfl).froz 2 _ rfl
          have cf3 := (HB2.out.box 0 _ _ rfl).froz 3 _ rfl
          have cf4 := (HB2.out.box 0 _ _ rfl).froz 4 _ rfl
          have cf5 := (HB2.out.box 0 _ _ rfl).froz 5 _ rfl
          have cf6 := (HB2.out.box 0 _ _ rfl).froz 6 _ rfl
          have cf7 := (HB2.out.box 0 _ _ rfl).froz 7 _ rfl
          have cf8 := (HB2.out.box 0 _ _ rfl).froz 8 _ rfl
          have cf9 := (HB2.out.box 0 _ _ rfl).froz 9 _ rfl
          have cf10 := (HB2.out.box 0 _ _ rfl).froz 10 _ rfl
          have cf11 := (HB2.out.box 0 _ _ rfl).froz 11 _ rfl
          go_wp2_with fail
          obtain ⟨w6, hw6, HB3'⟩ := HB2.out.lane 0 _ X rfl 0 (by omega) 0 1 2 rfl rfl rfl (Y 0)
          rw [hw6]
          rw [← HP.out, HY.out] at HB3'
          clear hw6
          go_roundg (n - (q + 1) + 1)
          case measure => omega
          case rel => exact ⟨q + 1, by go_num, by omega, by omega, HB3'⟩
      · have x0 : wr.cell? ⟨b0, off + q, none⟩ = some (.int .i64 1) := x0'
        have HP : Hid (_) := hP
        clear x0' hP hU
        have cl := (HB1.out.box 0 _ _ rfl).lt
        have c0 := (HB1.out.box 0 _ _ rfl).cell 0 _ rfl
        have c1 := (HB1.out.box 0 _ _ rfl).cell 1 _ rfl
        have c2 := (HB1.out.box 0 _ _ rfl).cell 2 _ rfl
        have c3 := (HB1.out.box 0 _ _ rfl).cell 3 _ rfl
        have c4 := (HB1.out.box 0 _ _ rfl).cell 4 _ rfl
        have c5 := (HB1.out.box 0 _ _ rfl).cell 5 _ rfl
        have c6 := (HB1.out.box 0 _ _ rfl).cell 6 _ rfl
        have c7 := (HB1.out.box 0 _ _ rfl).cell 7 _ rfl
        have c8 := (HB1.out.box 0 _ _ rfl).cell 8 _ rfl
        have c9 := (HB1.out.box 0 _ _ rfl).cell 9 _ rfl
        have c10 := (HB1.out.box 0 _ _ rfl).cell 10 _ rfl
        have c11 := (HB1.out.box 0 _ _ rfl).cell 11 _ rfl
        by_cases hq2 : q < 2
        · have z2 : (q : Int) < 2 := by omega
          rw [show evA q = 1 from if_pos hq2] at hK
          have CK : Hid (_) := hK
          clear hK hq2
          go_wp2_with fail
          refine (CK.out _).mono ?_
          rintro r w5 ⟨rfl, hb⟩
          have HB2 : Hid (_) := HB1.out.step hb
          clear hb HB1 CK x0
          clear cl c0 c1 c2 c3 c4 c5 c6 c7 c8 c9 c10 c11
          have cl := (HB2.out.box 0 _ _ rfl).lt
          have c0 := (HB2.out.box 0 _ _ rfl).cell 0 _ rfl
          have c1 := (HB2.out.box 0 _ _ rfl).cell 1 _ rfl
          have c2 := (HB2.out.box 0 _ _ rfl).cell 2 _ rfl
          have c3 := (HB2.out.box 0 _ _ rfl).cell 3 _ rfl
          have c4 := (HB2.out.box 0 _ _ rfl).cell 4 _ rfl
          have c5 := (HB2.out.box 0 _ _ rfl).cell 5 _ rfl
          have c6 := (HB2.out.box 0 _ _ rfl).cell 6 _ rfl
          have c7 := (HB2.out.box 0 _ _ rfl).cell 7 _ rfl
          have c8 := (HB2.out.box 0 _ _ rfl).cell 8 _ rfl
          have c9 := (HB2.out.box 0 _ _ rfl).cell 9 _ rfl
          have c10 := (HB2.out.box 0 _ _ rfl).cell 10 _ rfl
          have c11 := (HB2.out.box 0 _ _ rfl).cell 11 _ rfl
          have cf0 := (HB2.out.box 0 _ _ rfl).froz 0 _ rfl
          have cf1 := (HB2.out.box 0 _ _ rfl).froz 1 _ rfl
          have cf2 := (HB2.out.box 0 _ _ rfl).froz 2 _ rfl
          have cf3 := (HB2.out.box 0 _ _ rfl).froz 3 _ rfl
          have cf4 := (HB2.out.box 0 _ _ rfl).froz 4 _ rfl
          have cf5 := (HB2.out.box 0 _ _ rfl).froz 5 _ rfl
          have cf6 := (HB2.out.box 0 _ _ rfl).froz 6 _ rfl
          have cf7 := (HB2.out.box 0 _ _ rfl).froz 7 _ rfl
          have cf8 := (HB2.out.box 0 _ _ rfl).froz 8 _ rfl
          have cf9 := (HB2.out.box 0 _ _ rfl).froz 9 _ rfl
          have cf10 := (HB2.out.box 0 _ _ rfl).froz 10 _ rfl
          have cf11 := (HB2.out.box 0 _ _ rfl).froz 11 _ rfl
          go_wp2_with fail
          obtain ⟨w6, hw6, HB3'⟩ := HB2.out.lane 0 _ X rfl 1 (by omega) 3 4 5 rfl rfl rfl (Y 1)
          rw [hw6]
          rw [← HP.out, HY.out] at HB3'
          clear hw6
          go_roundg (n - (q + 1) + 1)
          case measure => omega
          case rel => exact ⟨q + 1, by go_num, by omega, by omega, HB3'⟩
        · have z2 : ¬ (q : Int) < 2 := by omega
          rw [show evA q = 2 from if_neg hq2] at hK
          have CK : Hid (_) := hK
          clear hK hq2
          go_wp2_with fail
          refine (CK.out _).mono ?_
          rintro r w5 ⟨rfl, hb⟩
          have HB2 : Hid (_) := HB1.out.step hb
          clear hb HB1 CK x0
          clear cl c0 c1 c2 c3 c4 c5 c6 c7 c8 c9 c10 c11
          have cl := (HB2.out.box 0 _ _ rfl).lt
          have c0 := (HB2.out.box 0 _ _ rfl).cell 0 _ rfl
          have c1 := (HB2.out.box 0 _ _ rfl).cell 1 _ rfl
          have c2 := (HB2.out.box 0 _ _ rfl).cell 2 _ rfl
          have c3 := (HB2.out.box 0 _ _ rfl).cell 3 _ rfl
          have c4 := (HB2.out.box 0 _ _ rfl).cell 4 _ rfl
          have c5 := (HB2.out.box 0 _ _ rfl).cell 5 _ rfl
          have c6 := (HB2.out.box 0 _ _ rfl).cell 6 _ rfl
          have c7 := (HB2.out.box 0 _ _ rfl).cell 7 _ rfl
          have c8 := (HB2.out.box 0 _ _ rfl).cell 8 _ rfl
          have c9 := (HB2.out.box 0 _ _ rfl).cell 9 _ rfl
          have c10 := (HB2.out.box 0 _ _ rfl).cell 10 _ rfl
          have c11 := (HB2.out.box 0 _ _ rfl).cell 11 _ rfl
          have cf0 := (HB2.out.box 0 _ _ rfl).froz 0 _ rfl
          have cf1 := (HB2.out.box 0 _ _ rfl).froz 1 _ rfl
          have cf2 := (HB2.out.box 0 _ _ rfl).froz 2 _ rfl
          have cf3 := (HB2.out.box 0 _ _ rfl).froz 3 _ rfl
          have cf4 := (HB2.out.box 0 _ _ rfl).froz 4 _ rfl
          have cf5 := (HB2.out.box 0 _ _ rfl).froz 5 _ rfl
          have cf6 := (HB2.out.box 0 _ _ rfl).froz 6 _ rfl
          have cf7 := (HB2.out.box 0 _ _ rfl).froz 7 _ rfl
          have cf8 := (HB2.out.box 0 _ _ rfl).froz 8 _ rfl
          have cf9 := (HB2.out.box 0 _ _ rfl).froz 9 _ rfl
          have cf10 := (HB2.out.box 0 _ _ rfl).froz 10 _ rfl
          have cf11 := (HB2.out.box 0 _ _ rfl).froz 11 _ rfl
          go_wp2_with fail
          obtain ⟨w6, hw6, HB3'⟩ := HB2.out.lane 0 _ X rfl 1 (by omega) 3 4 5 rfl rfl rfl (Y 1)
          rw [hw6]
          rw [← HP.out, HY.out] at HB3'
          clear hw6
          go_roundg (n - (q + 1) + 1)
          case measure => omega
          case rel => exact ⟨q + 1, by go_num, by omega, by omega, HB3'⟩
      · have x0 : wr.cell? ⟨b0, off + q, none⟩ = some (.int .i64 2) := x0'
        have HP : Hid (_) := hP
        clear x0' hP hU
        have cl := (HB1.out.box 0 _ _ rfl).lt
        have c0 := (HB1.out.box 0 _ _ rfl).cell 0 _ rfl
        have c1 := (HB1.out.box 0 _ _ rfl).cell 1 _ rfl
        have c2 := (HB1.out.box 0 _ _ rfl).cell 2 _ rfl
        have c3 := (HB1.out.box 0 _ _ rfl).cell 3 _ rfl
        have c4 := (HB1.out.box 0 _ _ rfl).cell 4 _ rfl
        have c5 := (HB1.out.box 0 _ _ rfl).cell 5 _ rfl
        have c6 := (HB1.out.box 0 _ _ rfl).cell 6 _ rfl
        have c7 := (HB1.out.box 0 _ _ rfl).cell 7 _ rfl
        have c8 := (HB1.out.box 0 _ _ rfl).cell 8 _ rfl
        have c9 := (HB1.out.box 0 _ _ rfl).cell 9 _ rfl
        have c10 := (HB1.out.box 0 _ _ rfl).cell 10 _ rfl
        have c11 := (HB1.out.box 0 _ _ rfl).cell 11 _ rfl
        by_cases hq2 : q < 2
        · have z2 : (q : Int) < 2 := by omega
          rw [show evA q = 1 from if_pos hq2] at hK
          have CK : Hid (_) := hK
          clear hK hq2
          go_wp2_with fail
          refine (CK.out _).mono ?_
          rintro r w5 ⟨rfl, hb⟩
          have HB2 : Hid (_) := HB1.out.step hb
          clear hb HB1 CK x0
          clear cl c0 c1 c2 c3 c4 c5 c6 c7 c8 c9 c10 c11
          have cl := (HB2.out.box 0 _ _ rfl).lt
          have c0 := (HB2.out.box 0 _ _ rfl).cell 0 _ rfl
          have c1 := (HB2.out.box 0 _ _ rfl).cell 1 _ rfl
          have c2 := (HB2.out.box 0 _ _ rfl).cell 2 _ rfl
          have c3 := (HB2.out.box 0 _ _ rfl).cell 3 _ rfl
          have c4 := (HB2.out.box 0 _ _ rfl).cell 4 _ rfl
          have c5 := (HB2.out.box 0 _ _ rfl).cell 5 _ rfl
          have c6 := (HB2.out.box 0 _ _ rfl).cell 6 _ rfl
          have c7 := (HB2.out.box 0 _ _ rfl).cell 7 _ rfl
          have c8 := (HB2.out.box 0 _ _ rfl).cell 8 _ rfl
          have c9 := (HB2.out.box 0 _ _ rfl).cell 9 _ rfl
          have c10 := (HB2.out.box 0 _ _ rfl).cell 10 _ rfl
          have c11 := (HB2.out.box 0 _ _ rfl).cell 11 _ rfl
          have cf0 := (HB2.out.box 0 _ _ rfl).froz 0 _ rfl
          have cf1 := (HB2.out.box 0 _ _ rfl).froz 1 _ rfl
          have cf2 := (HB2.out.box 0 _ _ rfl).froz 2 _ rfl
          have cf3 := (HB2.out.box 0 _ _ rfl).froz 3 _ rfl
          have cf4 := (HB2.out.box 0 _ _ rfl).froz 4 _ rfl
          have cf5 := (HB2.out.box 0 _ _ rfl).froz 5 _ rfl
          have cf6 := (HB2.out.box 0 _ _ rfl).froz 6 _ rfl
          have cf7 := (HB2.out.box 0 _ _ rfl).froz 7 _ rfl
          have cf8 := (HB2.out.box 0 _ _ rfl).froz 8 _ rfl
          have cf9 := (HB2.out.box 0 _ _ rfl).froz 9 _ rfl
          have cf10 := (HB2.out.box 0 _ _ rfl).froz 10 _ rfl
          have cf11 := (HB2.out.box 0 _ _ rfl).froz 11 _ rfl
          go_wp2_with fail
          obtain ⟨w6, hw6, HB3'⟩ := HB2.out.lane 0 _ X rfl 2 (by omega) 6 7 8 rfl rfl rfl (Y 2)
          rw [hw6]
          rw [← HP.out, HY.out] at HB3'
          clear hw6
          go_roundg (n - (q + 1) + 1)
          case measure => omega
          case rel => exact ⟨q + 1, by go_num, by omega, by omega, HB3'⟩
        · have z2 : ¬ (q : Int) < 2 := by omega
          rw [show evA q = 2 from if_neg hq2] at hK
          have CK : Hid (_) := hK
          clear hK hq2
          go_wp2_with fail
          refine (CK.out _).mono ?_
          rintro r w5 ⟨rfl, hb⟩
          have HB2 : Hid (_) := HB1.out.step hb
          clear hb HB1 CK x0
          clear cl c0 c1 c2 c3 c4 c5 c6 c7 c8 c9 c10 c11
          have cl := (HB2.out.box 0 _ _ rfl).lt
          have c0 := (HB2.out.box 0 _ _ rfl).cell 0 _ rfl
          have c1 := (HB2.out.box 0 _ _ rfl).cell 1 _ rfl
          have c2 := (HB2.out.box 0 _ _ rfl).cell 2 _ rfl
          have c3 := (HB2.out.box 0 _ _ rfl).cell 3 _ rfl
          have c4 := (HB2.out.box 0 _ _ rfl).cell 4 _ rfl
          have c5 := (HB2.out.box 0 _ _ rfl).cell 5 _ rfl
          have c6 := (HB2.out.box 0 _ _ rfl).cell 6 _ rfl
          have c7 := (HB2.out.box 0 _ _ rfl).cell 7 _ rfl
          have c8 := (HB2.out.box 0 _ _ rfl).cell 8 _ rfl
          have c9 := (HB2.out.box 0 _ _ rfl).cell 9 _ rfl
          have c10 := (HB2.out.box 0 _ _ rfl).cell 10 _ rfl
          have c11 := (HB2.out.box 0 _ _ rfl).cell 11 _ rfl
          have cf0 := (HB2.out.box 0 _ _ rfl).froz 0 _ rfl
          have cf1 := (HB2.out.box 0 _ _ rfl).froz 1 _ rfl
          have cf2 := (HB2.out.box 0 _ _ rfl).froz 2 _ rfl
          have cf3 := (HB2.out.box 0 _ _ rfl).froz 3 _ rfl
          have cf4 := (HB2.out.box 0 _ _ rfl).froz 4 _ rfl
          have cf5 := (HB2.out.box 0 _ _ rfl).froz 5 _ rfl
          have cf6 := (HB2.out.box 0 _ _ rfl).froz 6 _ rfl
          have cf7 := (HB2.out.box 0 _ _ rfl).froz 7 _ rfl
          have cf8 := (HB2.out.box 0 _ _ rfl).froz 8 _ rfl
          have cf9 := (HB2.out.box 0 _ _ rfl).froz 9 _ rfl
          have cf10 := (HB2.out.box 0 _ _ rfl).froz 10 _ rfl
          have cf11 := (HB2.out.box 0 _ _ rfl).froz 11 _ rfl
          go_wp2_with fail
          obtain ⟨w6, hw6, HB3'⟩ := HB2.out.lane 0 _ X rfl 2 (by omega) 6 7 8 rfl rfl rfl (Y 2)
          rw [hw6]
          rw [← HP.out, HY.out] at HB3'
          clear hw6
          go_roundg (n - (q + 1) + 1)
          case measure => omega
          case rel => exact ⟨q + 1, by go_num, by omega, by omega, HB3'⟩
      · have x0 : wr.cell? ⟨b0, off + q, none⟩ = some (.int .i64 3) := x0'
        have HP : Hid (_) := hP
        clear x0' hP hU
        have cl := (HB1.out.box 0 _ _ rfl).lt
        have c0 := (HB1.out.box 0 _ _ rfl).cell 0 _ rfl
        have c1 := (HB1.out.box 0 _ _ rfl).cell 1 _ rfl
        have c2 := (HB1.out.box 0 _ _ rfl).cell 2 _ rfl
        have c3 := (HB1.out.box 0 _ _ rfl).cell 3 _ rfl
        have c4 := (HB1.out.box 0 _ _ rfl).cell 4 _ rfl
        have c5 := (HB1.out.box 0 _ _ rfl).cell 5 _ rfl
        have c6 := (HB1.out.box 0 _ _ rfl).cell 6 _ rfl
        have c7 := (HB1.out.box 0 _ _ rfl).cell 7 _ rfl
        have c8 := (HB1.out.box 0 _ _ rfl).cell 8 _ rfl
        have c9 := (HB1.out.box 0 _ _ rfl).cell 9 _ rfl
        have c10 := (HB1.out.box 0 _ _ rfl).cell 10 _ rfl
        have c11 := (HB1.out.box 0 _ _ rfl).cell 11 _ rfl
        by_cases hq2 : q < 2
        · have z2 : (q : Int) < 2 := by omega
          rw [show evA q = 1 from if_pos hq2] at hK
          have CK : Hid (_) := hK
          clear hK hq2
          go_wp2_with fail
          refine (CK.out _).mono ?_
          rintro r w5 ⟨rfl, hb⟩
          have HB2 : Hid (_) := HB1.out.step hb
          clear hb HB1 CK x0
          clear cl c0 c1 c2 c3 c4 c5 c6 c7 c8 c9 c10 c11
          have cl := (HB2.out.box 0 _ _ rfl).lt
          have c0 := (HB2.out.box 0 _ _ rfl).cell 0 _ rfl
          have c1 := (HB2.out.box 0 _ _ rfl).cell 1 _ rfl
          have c2 := (HB2.out.box 0 _ _ rfl).cell 2 _ rfl
          have c3 := (HB2.out.box 0 _ _ rfl).cell 3 _ rfl
          have c4 := (HB2.out.box 0 _ _ rfl).cell 4 _ rfl
          have c5 := (HB2.out.box 0 _ _ rfl).cell 5 _ rfl
          have c6 := (HB2.out.box 0 _ _ rfl).cell 6 _ rfl
          have c7 := (HB2.out.box 0 _ _ rfl).cell 7 _ rfl
          have c8 := (HB2.out.box 0 _ _ rfl).cell 8 _ rfl
          have c9 := (HB2.out.box 0 _ _ rfl).cell 9 _ rfl
          have c10 := (HB2.out.box 0 _ _ rfl).cell 10 _ rfl
          have c11 := (HB2.out.box 0 _ _ rfl).cell 11 _ rfl
          have cf0 := (HB2.out.box 0 _ _ rfl).froz 0 _ rfl
          have cf1 := (HB2.out.box 0 _ _ rfl).froz 1 _ rfl
          have cf2 := (HB2.out.box 0 _ _ rfl).froz 2 _ rfl
          have cf3 := (HB2.out.box 0 _ _ rfl).froz 3 _ rfl
          have cf4 := (HB2.out.box 0 _ _ rfl).froz 4 _ rfl
          have cf5 := (HB2.out.box 0 _ _ rfl).froz 5 _ rfl
          have cf6 := (HB2.out.box 0 _ _ rfl).froz 6 _ rfl
          have cf7 := (HB2.out.box 0 _ _ rfl).froz 7 _ rfl
          have cf8 := (HB2.out.box 0 _ _ rfl).froz 8 _ rfl
          have cf9 := (HB2.out.box 0 _ _ rfl).froz 9 _ rfl
          have cf10 := (HB2.out.box 0 _ _ rfl).froz 10 _ rfl
          have cf11 := (HB2.out.box 0 _ _ rfl).froz 11 _ rfl
          go_wp2_with fail
          obtain ⟨w6, hw6, HB3'⟩ := HB2.out.lane 0 _ X rfl 3 (by omega) 9 10 11 rfl rfl rfl (Y 3)
          rw [hw6]
          rw [← HP.out, HY.out] at HB3'
          clear hw6
          go_roundg (n - (q + 1) + 1)
          case measure => omega
          case rel => exact ⟨q + 1, by go_num, by omega, by omega, HB3'⟩
        · have z2 : ¬ (q : Int) < 2 := by omega
          rw [show evA q = 2 from if_neg hq2] at hK
          have CK : Hid (_) := hK
          clear hK hq2
          go_wp2_with fail
          refine (CK.out _).mono ?_
          rintro r w5 ⟨rfl, hb⟩
          have HB2 : Hid (_) := HB1.out.step hb
          clear hb HB1 CK x0
          clear cl c0 c1 c2 c3 c4 c5 c6 c7 c8 c9 c10 c11
          have cl := (HB2.out.box 0 _ _ rfl).lt
          have c0 := (HB2.out.box 0 _ _ rfl).cell 0 _ rfl
          have c1 := (HB2.out.box 0 _ _ rfl).cell 1 _ rfl
          have c2 := (HB2.out.box 0 _ _ rfl).cell 2 _ rfl
          have c3 := (HB2.out.box 0 _ _ rfl).cell 3 _ rfl
          have c4 := (HB2.out.box 0 _ _ rfl).cell 4 _ rfl
          have c5 := (HB2.out.box 0 _ _ rfl).cell 5 _ rfl
          have c6 := (HB2.out.box 0 _ _ rfl).cell 6 _ rfl
          have c7 := (HB2.out.box 0 _ _ rfl).cell 7 _ rfl
          have c8 := (HB2.out.box 0 _ _ rfl).cell 8 _ rfl
          have c9 := (HB2.out.box 0 _ _ rfl).cell 9 _ rfl
          have c10 := (HB2.out.box 0 _ _ rfl).cell 10 _ rfl
          have c11 := (HB2.out.box 0 _ _ rfl).cell 11 _ rfl
          have cf0 := (HB2.out.box 0 _ _ rfl).froz 0 _ rfl
          have cf1 := (HB2.out.box 0 _ _ rfl).froz 1 _ rfl
          have cf2 := (HB2.out.box 0 _ _ rfl).froz 2 _ rfl
          have cf3 := (HB2.out.box 0 _ _ rfl).froz 3 _ rfl
          have cf4 := (HB2.out.box 0 _ _ rfl).froz 4 _ rfl
          have cf5 := (HB2.out.box 0 _ _ rfl).froz 5 _ rfl
          have cf6 := (HB2.out.box 0 _ _ rfl).froz 6 _ rfl
          have cf7 := (HB2.out.box 0 _ _ rfl).froz 7 _ rfl
          have cf8 := (HB2.out.box 0 _ _ rfl).froz 8 _ rfl
          have cf9 := (HB2.out.box 0 _ _ rfl).froz 9 _ rfl
          have cf10 := (HB2.out.box 0 _ _ rfl).froz 10 _ rfl
          have cf11 := (HB2.out.box 0 _ _ rfl).froz 11 _ rfl
          go_wp2_with fail
          obtain ⟨w6, hw6, HB3'⟩ := HB2.out.lane 0 _ X rfl 3 (by omega) 9 10 11 rfl rfl rfl (Y 3)
          rw [hw6]
          rw [← HP.out, HY.out] at HB3'
          clear hw6
          go_roundg (n - (q + 1) + 1)
          case measure => omega
          case rel => exact ⟨q + 1, by go_num, by omega, by omega, HB3'⟩
    · have z1 : ¬ (q : Int) < (n : Int) := by omega
      obtain rfl : q = n := by omega
      have cl := (HB.out.box 0 _ _ rfl).lt
      have c0 := (HB.out.box 0 _ _ rfl).cell 0 _ rfl
      have c1 := (HB.out.box 0 _ _ rfl).cell 1 _ rfl
      have c2 := (HB.out.box 0 _ _ rfl).cell 2 _ rfl
      have c3 := (HB.out.box 0 _ _ rfl).cell 3 _ rfl
      have c4 := (HB.out.box 0 _ _ rfl).cell 4 _ rfl
      have c5 := (HB.out.box 0 _ _ rfl).cell 5 _ rfl
      have c6 := (HB.out.box 0 _ _ rfl).cell 6 _ rfl
      have c7 := (HB.out.box 0 _ _ rfl).cell 7 _ rfl
      have c8 := (HB.out.box 0 _ _ rfl).cell 8 _ rfl
      have c9 := (HB.out.box 0 _ _ rfl).cell 9 _ rfl
      have c10 := (HB.out.box 0 _ _ rfl).cell 10 _ rfl
      have c11 := (HB.out.box 0 _ _ rfl).cell 11 _ rfl
      have dl := (HB.out.box 1 _ _ rfl).lt
      have d0 := (HB.out.box 1 _ _ rfl).cell 0 _ rfl
      have d1 := (HB.out.box 1 _ _ rfl).cell 1 _ rfl
      have d2 := (HB.out.box 1 _ _ rfl).cell 2 _ rfl
      have d3 := (HB.out.box 1 _ _ rfl).cell 3 _ rfl
      have d4 := (HB.out.box 1 _ _ rfl).cell 4 _ rfl
      have d5 := (HB.out.box 1 _ _ rfl).cell 5 _ rfl
      have d6 := (HB.out.box 1 _ _ rfl).cell 6 _ rfl
      have d7 := (HB.out.box 1 _ _ rfl).cell 7 _ rfl
      have d8 := (HB.out.box 1 _ _ rfl).cell 8 _ rfl
      have d9 := (HB.out.box 1 _ _ rfl).cell 9 _ rfl
      have d10 := (HB.out.box 1 _ _ rfl).cell 10 _ rfl
      have d11 := (HB.out.box 1 _ _ rfl).cell 11 _ rfl
      have df0 := (HB.out.box 1 _ _ rfl).froz 0 _ rfl
      have df1 := (HB.out.box 1 _ _ rfl).froz 1 _ rfl
      have df2 := (HB.out.box 1 _ _ rfl).froz 2 _ rfl
      have df3 := (HB.out.box 1 _ _ rfl).froz 3 _ rfl
      have df4 := (HB.out.box 1 _ _ rfl).froz 4 _ rfl
      have df5 := (HB.out.box 1 _ _ rfl).froz 5 _ rfl
      have df6 := (HB.out.box 1 _ _ rfl).froz 6 _ rfl
      have df7 := (HB.out.box 1 _ _ rfl).froz 7 _ rfl
      have df8 := (HB.out.box 1 _ _ rfl).froz 8 _ rfl
      have df9 := (HB.out.box 1 _ _ rfl).froz 9 _ rfl
      have df10 := (HB.out.box 1 _ _ rfl).froz 10 _ rfl
      have df11 := (HB.out.box 1 _ _ rfl).froz 11 _ rfl
      go_wp2_with fail
      obtain ⟨w6, hw6, HB3⟩ := HB.out.team 1 _ _ (A q) rfl rfl
      rw [hw6]
      have yl := (HB3.box 1 _ _ rfl).lt
      have y0 := (HB3.box 1 _ _ rfl).cell 0 _ rfl
      have y1 := (HB3.box 1 _ _ rfl).cell 1 _ rfl
      have y2 := (HB3.box 1 _ _ rfl).cell 2 _ rfl
      have y3 := (HB3.box 1 _ _ rfl).cell 3 _ rfl
      have y4 := (HB3.box 1 _ _ rfl).cell 4 _ rfl
      have y5 := (HB3.box 1 _ _ rfl).cell 5 _ rfl
      have y6 := (HB3.box 1 _ _ rfl).cell 6 _ rfl
      have y7 := (HB3.box 1 _ _ rfl).cell 7 _ rfl
      have y8 := (HB3.box 1 _ _ rfl).cell 8 _ rfl
      have y9 := (HB3.box 1 _ _ rfl).cell 9 _ rfl
      have y10 := (HB3.box 1 _ _ rfl).cell 10 _ rfl
      have y11 := (HB3.box 1 _ _ rfl).cell 11 _ rfl
      refine bodyPost_ret (by simp [results, Try.results22, go_sem, y0, y1, y2, y3, y4, y5, y6, y7, y8, y9, y10, y11]; try rfl) rfl ?_
      exact ⟨rfl, HB3.bel⟩

set_option maxHeartbeats 16000000 in
set_option maxRecDepth 100000 in
theorem raged_core (a t u : Nat → St) (w : World) (HI : Hid (∀ j, j < 4 → 0 ≤ (t j).n ∧ (t j).n ≤ 10000))
    (HC : Hid (∀ j, j < 4 → (((a j).m == (t j).m) = true ∧ u j = ⟨(a j).m, (a j).f, (tkI (t j).n)⟩) ∨ (((a j).m == (t j).m) = false ∧ u j = a j))) :
    Calls Try.prog 24 #[.agg #[.int .i64 (a 0).m, .bool (a 0).f, .int .i64 (a 0).n, .int .i64 (a 1).m, .bool (a 1).f, .int .i64 (a 1).n, .int .i64 (a 2).m, .bool (a 2).f, .int .i64 (a 2).n, .int .i64 (a 3).m, .bool (a 3).f, .int .i64 (a 3).n], .agg #[.int .i64 (t 0).m, .bool (t 0).f, .int .i64 (t 0).n, .int .i64 (t 1).m, .bool (t 1).f, .int .i64 (t 1).n, .int .i64 (t 2).m, .bool (t 2).f, .int .i64 (t 2).n, .int .i64 (t 3).m, .bool (t 3).f, .int .i64 (t 3).n]] w fun r w' => r = .returned (.agg #[.int .i64 (u 0).m, .bool (u 0).f, .int .i64 (u 0).n, .int .i64 (u 1).m, .bool (u 1).f, .int .i64 (u 1).n, .int .i64 (u 2).m, .bool (u 2).f, .int .i64 (u 2).n, .int .i64 (u 3).m, .bool (u 3).f, .int .i64 (u 3).n]) ∧ Below w.heap.size w w' := by
  have B0 : Hid (Bxs w [(w.heap.size, [.int .i64 ((upS 0 a u) 0).m, .bool ((upS 0 a u) 0).f, .int .i64 ((upS 0 a u) 0).n, .int .i64 ((upS 0 a u) 1).m, .bool ((upS 0 a u) 1).f, .int .i64 ((upS 0 a u) 1).n, .int .i64 ((upS 0 a u) 2).m, .bool ((upS 0 a u) 2).f, .int .i64 ((upS 0 a u) 2).n, .int .i64 ((upS 0 a u) 3).m, .bool ((upS 0 a u) 3).f, .int .i64 ((upS 0 a u) 3).n]), (w.heap.size + 1, [.int .i64 (t 0).m, .bool (t 0).f, .int .i64 (t 0).n, .int .i64 (t 1).m, .bool (t 1).f, .int .i64 (t 1).n, .int .i64 (t 2).m, .bool (t 2).f, .int .i64 (t 2).n, .int .i64 (t 3).m, .bool (t 3).f, .int .i64 (t 3).n]), (w.heap.size + 1 + 1, [.int .i64 0, .bool false, .int .i64 0, .int .i64 0, .bool false, .int .i64 0, .int .i64 0, .bool false, .int .i64 0, .int .i64 0, .bool false, .int .i64 0])] _) := bxs_three w #[.int .i64 (a 0).m, .bool (a 0).f, .int .i64 (a 0).n, .int .i64 (a 1).m, .bool (a 1).f, .int .i64 (a 1).n, .int .i64 (a 2).m, .bool (a 2).f, .int .i64 (a 2).n, .int .i64 (a 3).m, .bool (a 3).f, .int .i64 (a 3).n] #[.int .i64 (t 0).m, .bool (t 0).f, .int .i64 (t 0).n, .int .i64 (t 1).m, .bool (t 1).f, .int .i64 (t 1).n, .int .i64 (t 2).m, .bool (t 2).f, .int .i64 (t 2).n, .int .i64 (t 3).m, .bool (t 3).f, .int .i64 (t 3).n] #[.int .i64 0, .bool false, .int .i64 0, .int .i64 0, .bool false, .int .i64 0, .int .i64 0, .bool false, .int .i64 0, .int .i64 0, .bool false, .int .i64 0] 25 25 25
  go_enter Try.func24, Try.ntmps24
  go_wp2_with fail
  go_loopg [6] (5) (fun g s wr => ∃ j : Nat, s = .int .i64 j ∧ 4 - j < g ∧ j ≤ 4 ∧ Hid (Bxs w [(w.heap.size, [.int .i64 ((upS j a u) 0).m, .bool ((upS j a u) 0).f, .int .i64 ((upS j a u) 0).n, .int .i64 ((upS j a u) 1).m, .bool ((upS j a u) 1).f, .int .i64 ((upS j a u) 1).n, .int .i64 ((upS j a u) 2).m, .bool ((upS j a u) 2).f, .int .i64 ((upS j a u) 2).n, .int .i64 ((upS j a u) 3).m, .bool ((upS j a u) 3).f, .int .i64 ((upS j a u) 3).n]), (w.heap.size + 1, [.int .i64 (t 0).m, .bool (t 0).f, .int .i64 (t 0).n, .int .i64 (t 1).m, .bool (t 1).f, .int .i64 (t 1).n, .int .i64 (t 2).m, .bool (t 2).f, .int .i64 (t 2).n, .int .i64 (t 3).m, .bool (t 3).f, .int .i64 (t 3).n]), (w.heap.size + 1 + 1, [.int .i64 0, .bool false, .int .i64 0, .int .i64 0, .bool false, .int .i64 0, .int .i64 0, .bool false, .int .i64 0, .int .i64 0, .bool false, .int .i64 0])] wr))
  case atStart => exact ⟨0, rfl, by omega, by omega, B0⟩
  case round =>
    obtain ⟨j, rfl, hg, hj, HB'⟩ := hrel
    clear B0
    obtain ⟨A, hA⟩ : ∃ A, A = upS j a u := ⟨_, rfl⟩
    have HB : Hid (Bxs w [(w.heap.size, [.int .i64 (A 0).m, .bool (A 0).f, .int .i64 (A 0).n, .int .i64 (A 1).m, .bool (A 1).f, .int .i64 (A 1).n, .int .i64 (A 2).m, .bool (A 2).f, .int .i64 (A 2).n, .int .i64 (A 3).m, .bool (A 3).f, .int .i64 (A 3).n]), (w.heap.size + 1, [.int .i64 (t 0).m, .bool (t 0).f, .int .i64 (t 0).n, .int .i64 (t 1).m, .bool (t 1).f, .int .i64 (t 1).n, .int .i64 (t 2).m, .bool (t 2).f, .int .i64 (t 2).n, .int .i64 (t 3).m, .bool (t 3).f, .int .i64 (t 3).n]), (w.heap.size + 1 + 1, [.int .i64 0, .bool false, .int .i64 0, .int .i64 0, .bool false, .int .i64 0, .int .i64 0, .bool false, .int .i64 0, .int .i64 0, .bool false, .int .i64 0])] wr) := by rw [hA]; exact HB'.out
    have HT : Hid (a j = A j) := by rw [hA]; exact (upS_at j a u).symm
    have HN : Hid (putS A j (u j) = upS (j + 1) a u) := by rw [hA]; exact putS_up a u j
    have HZ : Hid (A = upS j a u) := hA
    clear hA HB'
    by_cases hlt : j < 4
    · obtain rfl | rfl | rfl | rfl := cases4 hlt
      · rcases HC.out 0 (by omega) with ⟨he, hc⟩ | ⟨he, hc⟩
        · rw [HT.out] at he hc
          have HU : Hid (_) := hc
          obtain ⟨n1, n2⟩ := HI.out 0 (by omega)
          obtain ⟨T, hT⟩ : ∃ T, T = tkI (t 0).n := ⟨_, rfl⟩
          have hmin : ∀ (ts : Array TypeId) (ty : TypeId) (W : World), (Builtin.min_ ts ty #[.int .i64 ((t 0).n + 1), .int .i64 10000]).run Try.prog W = .ok (.int .i64 T) W := fun ts ty W => by
            rw [hT, run_min_int2 W ts ty .i64 .i64 ((t 0).n + 1) 10000]
            unfold tkI
            split <;> split <;> first | rfl | (congr 2; omega) | omega
          rw [← hT] at HU
          clear hc hT
          have cl := (HB.out.box 0 _ _ rfl).lt
          have c0 := (HB.out.box 0 _ _ rfl).cell 0 _ rfl
          have c1 := (HB.out.box 0 _ _ rfl).cell 1 _ rfl
          have c2 := (HB.out.box 0 _ _ rfl).cell 2 _ rfl
          have c3 := (HB.out.box 0 _ _ rfl).cell 3 _ rfl
          have c4 := (HB.out.box 0 _ _ rfl).cell 4 _ rfl
          have c5 := (HB.out.box 0 _ _ rfl).cell 5 _ rfl
          have c6 := (HB.out.box 0 _ _ rfl).cell 6 _ rfl
          have c7 := (HB.out.box 0 _ _ rfl).cell 7 _ rfl
          have c8 := (HB.out.box 0 _ _ rfl).cell 8 _ rfl
          have c9 := (HB.out.box 0 _ _ rfl).cell 9 _ rfl
          have c10 := (HB.out.box 0 _ _ rfl).cell 10 _ rfl
          have c11 := (HB.out.box 0 _ _ rfl).cell 11 _ rfl
          have cf0 := (HB.out.box 0 _ _ rfl).froz 0 _ rfl
          have cf1 := (HB.out.box 0 _ _ rfl).froz 1 _ rfl
          have cf2 := (HB.out.box 0 _ _ rfl).froz 2 _ rfl
          have cf3 := (HB.out.box 0 _ _ rfl).froz 3 _ rfl
          have cf4 := (HB.out.box 0 _ _ rfl).froz 4 _ rfl
          have cf5 := (HB.out.box 0 _ _ rfl).froz 5 _ rfl
          have cf6 := (HB.out.box 0 _ _ rfl).froz 6 _ rfl
          have cf7 := (HB.out.box 0 _ _ rfl).froz 7 _ rfl
          have cf8 := (HB.out.box 0 _ _ rfl).froz 8 _ rfl
          have cf9 := (HB.out.box 0 _ _ rfl).froz 9 _ rfl
          have cf10 := (HB.out.box 0 _ _ rfl).froz 10 _ rfl
          have cf11 := (HB.out.box 0 _ _ rfl).froz 11 _ rfl
          have dl := (HB.out.box 1 _ _ rfl).lt
          have d0 := (HB.out.box 1 _ _ rfl).cell 0 _ rfl
          have d1 := (HB.out.box 1 _ _ rfl).cell 1 _ rfl
          have d2 := (HB.out.box 1 _ _ rfl).cell 2 _ rfl
          have d3 := (HB.out.box 1 _ _ rfl).cell 3 _ rfl
          have d4 := (HB.out.box 1 _ _ rfl).cell 4 _ rfl
          have d5 := (HB.out.box 1 _ _ rfl).cell 5 _ rfl
          have d6 := (HB.out.box 1 _ _ rfl).cell 6 _ rfl
          have d7 := (HB.out.box 1 _ _ rfl).cell 7 _ rfl
          have d8 := (HB.out.box 1 _ _ rfl).cell 8 _ rfl
          have d9 := (HB.out.box 1 _ _ rfl).cell 9 _ rfl
          have d10 := (HB.out.box 1 _ _ rfl).cell 10 _ rfl
          have d11 := (HB.out.box 1 _ _ rfl).cell 11 _ rfl
          go_wp2_with fail
          go_quiet (fail)
          go_wp2_with fail
          obtain ⟨w6, hw6, HB3⟩ := (HB.out.step (W' := wr.drewN nq) ⟨rfl, rfl, rfl, Nat.le_refl _, fun _ _ => rfl⟩).laneFor 0 _ A rfl 0 (by omega) 2 rfl T
          rw [hw6]
          rw [← HU.out, HN.out] at HB3
          clear hw6
          go_roundg (4 - (0 + 1) + 1)
          case measure => omega
          case rel => exact ⟨1, rfl, by omega, by omega, HB3⟩
        · rw [HT.out] at he
          have HU : Hid (upS (0 + 1) a u = A) := by rw [← HN.out]; exact putS_self (hc.trans HT.out)
          clear hc
          have cl := (HB.out.box 0 _ _ rfl).lt
          have c0 := (HB.out.box 0 _ _ rfl).cell 0 _ rfl
          have c1 := (HB.out.box 0 _ _ rfl).cell 1 _ rfl
          have c2 := (HB.out.box 0 _ _ rfl).cell 2 _ rfl
          have c3 := (HB.out.box 0 _ _ rfl).cell 3 _ rfl
          have c4 := (HB.out.box 0 _ _ rfl).cell 4 _ rfl
          have c5 := (HB.out.box 0 _ _ rfl).cell 5 _ rfl
          have c6 := (HB.out.box 0 _ _ rfl).cell 6 _ rfl
          have c7 := (HB.out.box 0 _ _ rfl).cell 7 _ rfl
          have c8 := (HB.out.box 0 _ _ rfl).cell 8 _ rfl
          have c9 := (HB.out.box 0 _ _ rfl).cell 9 _ rfl
          have c10 := (HB.out.box 0 _ _ rfl).cell 10 _ rfl
          have c11 := (HB.out.box 0 _ _ rfl).cell 11 _ rfl
          have dl := (HB.out.box 1 _ _ rfl).lt
          have d0 := (HB.out.box 1 _ _ rfl).cell 0 _ rfl
          have d1 := (HB.out.box 1 _ _ rfl).cell 1 _ rfl
          have d2 := (HB.out.box 1 _ _ rfl).cell 2 _ rfl
          have d3 := (HB.out.box 1 _ _ rfl).cell 3 _ rfl
          have d4 := (HB.out.box 1 _ _ rfl).cell 4 _ rfl
          have d5 := (HB.out.box 1 _ _ rfl).cell 5 _ rfl
          have d6 := (HB.out.box 1 _ _ rfl).cell 6 _ rfl
          have d7 := (HB.out.box 1 _ _ rfl).cell 7 _ rfl
          have d8 := (HB.out.box 1 _ _ rfl).cell 8 _ rfl
          have d9 := (HB.out.box 1 _ _ rfl).cell 9 _ rfl
          have d10 := (HB.out.box 1 _ _ rfl).cell 10 _ rfl
          have d11 := (HB.out.box 1 _ _ rfl).cell 11 _ rfl
          go_wp2_with fail
          go_quiet (fail)
          go_wp2_with fail
          have HB5 := HB.out.step (W' := wr.drewN nq) ⟨rfl, rfl, rfl, Nat.le_refl _, fun _ _ => rfl⟩
          rw [← HU.out] at HB5
          go_roundg (4 - (0 + 1) + 1)
          case measure => omega
          case rel => exact ⟨1, rfl, by omega, by omega, HB5⟩
      · rcases HC.out 1 (by omega) with ⟨he, hc⟩ | ⟨he, hc⟩
        · rw [HT.out] at he hc
          have HU : Hid (_) := hc
          obtain ⟨n1, n2⟩ := HI.out 1 (by omega)
          obtain ⟨T, hT⟩ : ∃ T, T = tkI (t 1).n := ⟨_, rfl⟩
          have hmin : ∀ (ts : Array TypeId) (ty : TypeId) (W : World), (Builtin.min_ ts ty #[.int .i64 ((t 1).n + 1), .int .i64 10000]).run Try.prog W = .ok (.int .i64 T) W := fun ts ty W => by
            rw [hT, run_min_int2 W ts ty .i64 .i64 ((t 1).n + 1) 10000]
            unfold tkI
            split <;> split <;> first | rfl | (congr 2; omega) | omega
          rw [← hT] at HU
          clear hc hT
          have cl := (HB.out.box 0 _ _ rfl).lt
          have c0 := (HB.out.box 0 _ _ rfl).cell 0 _ rfl
          have c1 := (HB.out.box 0 _ _ rfl).cell 1 _ rfl
          have c2 := (HB.out.box 0 _ _ rfl).cell 2 _ rfl
          have c3 := (HB.out.box 0 _ _ rfl).cell 3 _ rfl
          have c4 := (HB.out.box 0 _ _ rfl).cell 4 _ rfl
          have c5 := (HB.out.box 0 _ _ rfl).cell 5 _ rfl
          have c6 := (HB.out.box 0 _ _ rfl).cell 6 _ rfl
          have c7 := (HB.out.box 0 _ _ rfl).cell 7 _ rfl
          have c8 := (HB.out.box 0 _ _ rfl).cell 8 _ rfl
          have c9 := (HB.out.box 0 _ _ rfl).cell 9 _ rfl
          have c10 := (HB.out.box 0 _ _ rfl).cell 10 _ rfl
          have c11 := (HB.out.box 0 _ _ rfl).cell 11 _ rfl
          have cf0 := (HB.out.box 0 _ _ rfl).froz 0 _ rfl
          have cf1 := (HB.out.box 0 _ _ rfl).froz 1 _ rfl
          have cf2 := (HB.out.box 0 _ _ rfl).froz 2 _ rfl
          have cf3 := (HB.out.box 0 _ _ rfl).froz 3 _ rfl
          have cf4 := (HB.out.box 0 _ _ rfl).froz 4 _ rfl
          have cf5 := (HB.out.box 0 _ _ rfl).froz 5 _ rfl
          have cf6 := (HB.out.box 0 _ _ rfl).froz 6 _ rfl
          have cf7 := (HB.out.box 0 _ _ rfl).froz 7 _ rfl
          have cf8 := (HB.out.box 0 _ _ rfl).froz 8 _ rfl
          have cf9 := (HB.out.box 0 _ _ rfl).froz 9 _ rfl
          have cf10 := (HB.out.box 0 _ _ rfl).froz 10 _ rfl
          have cf11 := (HB.out.box 0 _ _ rfl).froz 11 _ rfl
          have dl := (HB.out.box 1 _ _ rfl).lt
          have d0 := (HB.out.box 1 _ _ rfl).cell 0 _ rfl
          have d1 := (HB.out.box 1 _ _ rfl).cell 1 _ rfl
          have d2 := (HB.out.box 1 _ _ rfl).cell 2 _ rfl
          have d3 := (HB.out.box 1 _ _ rfl).cell 3 _ rfl
          have d4 := (HB.out.box 1 _ _ rfl).cell 4 _ rfl
          have d5 := (HB.out.box 1 _ _ rfl).cell 5 _ rfl
          have d6 := (HB.out.box 1 _ _ rfl).cell 6 _ rfl
          have d7 := (HB.out.box 1 _ _ rfl).cell 7 _ rfl
          have d8 := (HB.out.box 1 _ _ rfl).cell 8 _ rfl
          have d9 := (HB.out.box 1 _ _ rfl).cell 9 _ rfl
          have d10 := (HB.out.box 1 _ _ rfl).cell 10 _ rfl
          have d11 := (HB.out.box 1 _ _ rfl).cell 11 _ rfl
          go_wp2_with fail
          go_quiet (fail)
          go_wp2_with fail
          obtain ⟨w6, hw6, HB3⟩ := (HB.out.step (W' := wr.drewN nq) ⟨rfl, rfl, rfl, Nat.le_refl _, fun _ _ => rfl⟩).laneFor 0 _ A rfl 1 (by omega) 5 rfl T
          rw [hw6]
          rw [← HU.out, HN.out] at HB3
          clear hw6
          go_roundg (4 - (1 + 1) + 1)
          case measure => omega
          case rel => exact ⟨2, rfl, by omega, by omega, HB3⟩
        · rw [HT.out] at he
          have HU : Hid (upS (1 + 1) a u = A) := by rw [← HN.out]; exact putS_self (hc.trans HT.out)
          clear hc
          have cl := (HB.out.box 0 _ _ rfl).lt
          have c0 := (HB.out.box 0 _ _ rfl).cell 0 _ rfl
          have c1 := (HB.out.box 0 _ _ rfl).cell 1 _ rfl
          have c2 := (HB.out.box 0 _ _ rfl).cell 2 _ rfl
          have c3 := (HB.out.box 0 _ _ rfl).cell 3 _ rfl
          have c4 := (HB.out.box 0 _ _ rfl).cell 4 _ rfl
          have c5 := (HB.out.box 0 _ _ rfl).cell 5 _ rfl
          have c6 := (HB.out.box 0 _ _ rfl).cell 6 _ rfl
          have c7 := (HB.out.box 0 _ _ rfl).cell 7 _ rfl
          have c8 := (HB.out.box 0 _ _ rfl).cell 8 _ rfl
          have c9 := (HB.out.box 0 _ _ rfl).cell 9 _ rfl
          have c10 := (HB.out.box 0 _ _ rfl).cell 10 _ rfl
          have c11 := (HB.out.box 0 _ _ rfl).cell 11 _ rfl
          have dl := (HB.out.box 1 _ _ rfl).lt
          have d0 := (HB.out.box 1 _ _ rfl).cell 0 _ rfl
          have d1 := (HB.out.box 1 _ _ rfl).cell 1 _ rfl
          have d2 := (HB.out.box 1 _ _ rfl).cell 2 _ rfl
          have d3 := (HB.out.box 1 _ _ rfl).cell 3 _ rfl
          have d4 := (HB.out.box 1 _ _ rfl).cell 4 _ rfl
          have d5 := (HB.out.box 1 _ _ rfl).cell 5 _ rfl
          have d6 := (HB.out.box 1 _ _ rfl).cell 6 _ rfl
          have d7 := (HB.out.box 1 _ _ rfl).cell 7 _ rfl
          have d8 := (HB.out.box 1 _ _ rfl).cell 8 _ rfl
          have d9 := (HB.out.box 1 _ _ rfl).cell 9 _ rfl
          have d10 := (HB.out.box 1 _ _ rfl).cell 10 _ rfl
          have d11 := (HB.out.box 1 _ _ rfl).cell 11 _ rfl
          go_wp2_with fail
          go_quiet (fail)
          go_wp2_with fail
          have HB5 := HB.out.step (W' := wr.drewN nq) ⟨rfl, rfl, rfl, Nat.le_refl _, fun _ _ => rfl⟩
          rw [← HU.out] at HB5
          go_roundg (4 - (1 + 1) + 1)
          case measure => omega
          case rel => exact ⟨2, rfl, by omega, by omega, HB5⟩
      · rcases HC.out 2 (by omega) with ⟨he, hc⟩ | ⟨he, hc⟩
        · rw [HT.out] at he hc
          have HU : Hid (_) := hc
          obtain ⟨n1, n2⟩ := HI.out 2 (by omega)
          obtain ⟨T, hT⟩ : ∃ T, T = tkI (t 2).n := ⟨_, rfl⟩
          have hmin : ∀ (ts : Array TypeId) (ty : TypeId) (W : World), (Builtin.min_ ts ty #[.int .i64 ((t 2).n + 1), .int .i64 10000]).run Try.prog W = .ok (.int .i64 T) W := fun ts ty W => by
            rw [hT, run_min_int2 W ts ty .i64 .i64 ((t 2).n + 1) 10000]
            unfold tkI
            split <;> split <;> first | rfl | (congr 2; omega) | omega
          rw [← hT] at HU
          clear hc hT
          have cl := (HB.out.box 0 _ _ rfl).lt
          have c0 := (HB.out.box 0 _ _ rfl).cell 0 _ rfl
          have c1 := (HB.out.box 0 _ _ rfl).cell 1 _ rfl
          have c2 := (HB.out.box 0 _ _ rfl).cell 2 _ rfl
          have c3 := (HB.out.box 0 _ _ rfl).cell 3 _ rfl
          have c4 := (HB.out.box 0 _ _ rfl).cell 4 _ rfl
          have c5 := (HB.out.box 0 _ _ rfl).cell 5 _ rfl
          have c6 := (HB.out.box 0 _ _ rfl).cell 6 _ rfl
          have c7 := (HB.out.box 0 _ _ rfl).cell 7 _ rfl
          have c8 := (HB.out.box 0 _ _ rfl).cell 8 _ rfl
          have c9 := (HB.out.box 0 _ _ rfl).cell 9 _ rfl
          have c10 := (HB.out.box 0 _ _ rfl).cell 10 _ rfl
          have c11 := (HB.out.box 0 _ _ rfl).cell 11 _ rfl
          have cf0 := (HB.out.box 0 _ _ rfl).froz 0 _ rfl
          have cf1 := (HB.out.box 0 _ _ rfl).froz 1 _ rfl
          have cf2 := (HB.out.box 0 _ _ rfl).froz 2 _ rfl
          have cf3 := (HB.out.box 0 _ _ rfl).froz 3 _ rfl
          have cf4 := (HB.out.box 0 _ _ rfl).froz 4 _ rfl
          have cf5 := (HB.out.box 0 _ _ rfl).froz 5 _ rfl
          have cf6 := (HB.out.box 0 _ _ rfl).froz 6 _ rfl
          have cf7 := (HB.out.box 0 _ _ rfl).froz 7 _ rfl
          have cf8 := (HB.out.box 0 _ _ rfl).froz 8 _ rfl
          have cf9 := (HB.out.box 0 _ _ rfl).froz 9 _ rfl
          have cf10 := (HB.out.box 0 _ _ rfl).froz 10 _ rfl
          have cf11 := (HB.out.box 0 _ _ rfl).froz 11 _ rfl
          have dl := (HB.out.box 1 _ _ rfl).lt
          have d0 := (HB.out.box 1 _ _ rfl).cell 0 _ rfl
          have d1 := (HB.out.box 1 _ _ rfl).cell 1 _ rfl
          have d2 := (HB.out.box 1 _ _ rfl).cell 2 _ rfl
          have d3 := (HB.out.box 1 _ _ rfl).cell 3 _ rfl
          have d4 := (HB.out.box 1 _ _ rfl).cell 4 _ rfl
          have d5 := (HB.out.box 1 _ _ rfl).cell 5 _ rfl
          have d6 := (HB.out.box 1 _ _ rfl).cell 6 _ rfl
          have d7 := (HB.out.box 1 _ _ rfl).cell 7 _ rfl
          have d8 := (HB.out.box 1 _ _ rfl).cell 8 _ rfl
          have d9 := (HB.out.box 1 _ _ rfl).cell 9 _ rfl
          have d10 := (HB.out.box 1 _ _ rfl).cell 10 _ rfl
          have d11 := (HB.out.box 1 _ _ rfl).cell 11 _ rfl
          go_wp2_with fail
          go_quiet (fail)
          go_wp2_with fail
          obtain ⟨w6, hw6, HB3⟩ := (HB.out.step (W' := wr.drewN nq) ⟨rfl, rfl, rfl, Nat.le_refl _, fun _ _ => rfl⟩).laneFor 0 _ A rfl 2 (by omega) 8 rfl T
          rw [hw6]
          rw [← HU.out, HN.out] at HB3
          clear hw6
          go_roundg (4 - (2 + 1) + 1)
          case measure => omega
          case rel => exact ⟨3, rfl, by omega, by omega, HB3⟩
        · rw [HT.out] at he
          have HU : Hid (upS (2 + 1) a u = A) := by rw [← HN.out]; exact putS_self (hc.trans HT.out)
          clear hc
          have cl := (HB.out.box 0 _ _ rfl).lt
          have c0 := (HB.out.box 0 _ _ rfl).cell 0 _ rfl
          have c1 := (HB.out.box 0 _ _ rfl).cell 1 _ rfl
          have c2 := (HB.out.box 0 _ _ rfl).cell 2 _ rfl
          have c3 := (HB.out.box 0 _ _ rfl).cell 3 _ rfl
          have c4 := (HB.out.box 0 _ _ rfl).cell 4 _ rfl
          have c5 := (HB.out.box 0 _ _ rfl).cell 5 _ rfl
          have c6 := (HB.out.box 0 _ _ rfl).cell 6 _ rfl
          have c7 := (HB.out.box 0 _ _ rfl).cell 7 _ rfl
          have c8 := (HB.out.box 0 _ _ rfl).cell 8 _ rfl
          have c9 := (HB.out.box 0 _ _ rfl).cell 9 _ rfl
          have c10 := (HB.out.box 0 _ _ rfl).cell 10 _ rfl
          have c11 := (HB.out.box 0 _ _ rfl).cell 11 _ rfl
          have dl := (HB.out.box 1 _ _ rfl).lt
          have d0 := (HB.out.box 1 _ _ rfl).cell 0 _ rfl
          have d1 := (HB.out.box 1 _ _ rfl).cell 1 _ rfl
          have d2 := (HB.out.box 1 _ _ rfl).cell 2 _ rfl
          have d3 := (HB.out.box 1 _ _ rfl).cell 3 _ rfl
          have d4 := (HB.out.box 1 _ _ rfl).cell 4 _ rfl
          have d5 := (HB.out.box 1 _ _ rfl).cell 5 _ rfl
          have d6 := (HB.out.box 1 _ _ rfl).cell 6 _ rfl
          have d7 := (HB.out.box 1 _ _ rfl).cell 7 _ rfl
          have d8 := (HB.out.box 1 _ _ rfl).cell 8 _ rfl
          have d9 := (HB.out.box 1 _ _ rfl).cell 9 _ rfl
          have d10 := (HB.out.box 1 _ _ rfl).cell 10 _ rfl
          have d11 := (HB.out.box 1 _ _ rfl).cell 11 _ rfl
          go_wp2_with fail
          go_quiet (fail)
          go_wp2_with fail
          have HB5 := HB.out.step (W' := wr.drewN nq) ⟨rfl, rfl, rfl, Nat.le_refl _, fun _ _ => rfl⟩
          rw [← HU.out] at HB5
          go_roundg (4 - (2 + 1) + 1)
          case measure => omega
          case rel => exact ⟨3, rfl, by omega, by omega, HB5⟩
      · rcases HC.out 3 (by omega) with ⟨he, hc⟩ | ⟨he, hc⟩
        · rw [HT.out] at he hc
          have HU : Hid (_) := hc
          obtain ⟨n1, n2⟩ := HI.out 3 (by omega)
          obtain ⟨T, hT⟩ : ∃ T, T = tkI (t 3).n := ⟨_, rfl⟩
          have hmin : ∀ (ts : Array TypeId) (ty : TypeId) (W : World), (Builtin.min_ ts ty #[.int .i64 ((t 3).n + 1), .int .i64 10000]).run Try.prog W = .ok (.int .i64 T) W := fun ts ty W => by
            rw [hT, run_min_int2 W ts ty .i64 .i64 ((t 3).n + 1) 10000]
            unfold tkI
            split <;> split <;> first | rfl | (congr 2; omega) | omega
          rw [← hT] at HU
          clear hc hT
          have cl := (HB.out.box 0 _ _ rfl).lt
          have c0 := (HB.out.box 0 _ _ rfl).cell 0 _ rfl
          have c1 := (HB.out.box 0 _ _ rfl).cell 1 _ rfl
          have c2 := (HB.out.box 0 _ _ rfl).cell 2 _ rfl
          have c3 := (HB.out.box 0 _ _ rfl).cell 3 _ rfl
          have c4 := (HB.out.box 0 _ _ rfl).cell 4 _ rfl
          have c5 := (HB.out.box 0 _ _ rfl).cell 5 _ rfl
          have c6 := (HB.out.box 0 _ _ rfl).cell 6 _ rfl
          have c7 := (HB.out.box 0 _ _ rfl).cell 7 _ rfl
          have c8 := (HB.out.box 0 _ _ rfl).cell 8 _ rfl
          have c9 := (HB.out.box 0 _ _ rfl).cell 9 _ rfl
          have c10 := (HB.out.box 0 _ _ rfl).cell 10 _ rfl
          have c11 := (HB.out.box 0 _ _ rfl).cell 11 _ rfl
          have cf0 := (HB.out.box 0 _ _ rfl).froz 0 _ rfl
          have cf1 := (HB.out.box 0 _ _ rfl).froz 1 _ rfl
          have cf2 := (HB.out.box 0 _ _ rfl).froz 2 _ rfl
          have cf3 := (HB.out.box 0 _ _ rfl).froz 3 _ rfl
          have cf4 := (HB.out.box 0 _ _ rfl).froz 4 _ rfl
          have cf5 := (HB.out.box 0 _ _ rfl).froz 5 _ rfl
          have cf6 := (HB.out.box 0 _ _ rfl).froz 6 _ rfl
          have cf7 := (HB.out.box 0 _ _ rfl).froz 7 _ rfl
          have cf8 := (HB.out.box 0 _ _ rfl).froz 8 _ rfl
          have cf9 := (HB.out.box 0 _ _ rfl).froz 9 _ rfl
          have cf10 := (HB.out.box 0 _ _ rfl).froz 10 _ rfl
          have cf11 := (HB.out.box 0 _ _ rfl).froz 11 _ rfl
          have dl := (HB.out.box 1 _ _ rfl).lt
          have d0 := (HB.out.box 1 _ _ rfl).cell 0 _ rfl
          have d1 := (HB.out.box 1 _ _ rfl).cell 1 _ rfl
          have d2 := (HB.out.box 1 _ _ rfl).cell 2 _ rfl
          have d3 := (HB.out.box 1 _ _ rfl).cell 3 _ rfl
          have d4 := (HB.out.box 1 _ _ rfl).cell 4 _ rfl
          have d5 := (HB.out.box 1 _ _ rfl).cell 5 _ rfl
          have d6 := (HB.out.box 1 _ _ rfl).cell 6 _ rfl
          have d7 := (HB.out.box 1 _ _ rfl).cell 7 _ rfl
          have d8 := (HB.out.box 1 _ _ rfl).cell 8 _ rfl
          have d9 := (HB.out.box 1 _ _ rfl).cell 9 _ rfl
          have d10 := (HB.out.box 1 _ _ rfl).cell 10 _ rfl
          have d11 := (HB.out.box 1 _ _ rfl).cell 11 _ rfl
          go_wp2_with fail
          go_quiet (fail)
          go_wp2_with fail
          obtain ⟨w6, hw6, HB3⟩ := (HB.out.step (W' := wr.drewN nq) ⟨rfl, rfl, rfl, Nat.le_refl _, fun _ _ => rfl⟩).laneFor 0 _ A rfl 3 (by omega) 11 rfl T
          rw [hw6]
          rw [← HU.out, HN.out] at HB3
          clear hw6
          go_roundg (4 - (3 + 1) + 1)
          case measure => omega
          case rel => exact ⟨4, rfl, by omega, by omega, HB3⟩
        · rw [HT.out] at he
          have HU : Hid (upS (3 + 1) a u = A) := by rw [← HN.out]; exact putS_self (hc.trans HT.out)
          clear hc
          have cl := (HB.out.box 0 _ _ rfl).lt
          have c0 := (HB.out.box 0 _ _ rfl).cell 0 _ rfl
          have c1 := (HB.out.box 0 _ _ rfl).cell 1 _ rfl
          have c2 := (HB.out.box 0 _ _ rfl).cell 2 _ rfl
          have c3 := (HB.out.box 0 _ _ rfl).cell 3 _ rfl
          have c4 := (HB.out.box 0 _ _ rfl).cell 4 _ rfl
          have c5 := (HB.out.box 0 _ _ rfl).cell 5 _ rfl
          have c6 := (HB.out.box 0 _ _ rfl).cell 6 _ rfl
          have c7 := (HB.out.box 0 _ _ rfl).cell 7 _ rfl
          have c8 := (HB.out.box 0 _ _ rfl).cell 8 _ rfl
          have c9 := (HB.out.box 0 _ _ rfl).cell 9 _ rfl
          have c10 := (HB.out.box 0 _ _ rfl).cell 10 _ rfl
          have c11 := (HB.out.box 0 _ _ rfl).cell 11 _ rfl
          have dl := (HB.out.box 1 _ _ rfl).lt
          have d0 := (HB.out.box 1 _ _ rfl).cell 0 _ rfl
          have d1 := (HB.out.box 1 _ _ rfl).cell 1 _ rfl
          have d2 := (HB.out.box 1 _ _ rfl).cell 2 _ rfl
          have d3 := (HB.out.box 1 _ _ rfl).cell 3 _ rfl
          have d4 := (HB.out.box 1 _ _ rfl).cell 4 _ rfl
          have d5 := (HB.out.box 1 _ _ rfl).cell 5 _ rfl
          have d6 := (HB.out.box 1 _ _ rfl).cell 6 _ rfl
          have d7 := (HB.out.box 1 _ _ rfl).cell 7 _ rfl
          have d8 := (HB.out.box 1 _ _ rfl).cell 8 _ rfl
          have d9 := (HB.out.box 1 _ _ rfl).cell 9 _ rfl
          have d10 := (HB.out.box 1 _ _ rfl).cell 10 _ rfl
          have d11 := (HB.out.box 1 _ _ rfl).cell 11 _ rfl
          go_wp2_with fail
          go_quiet (fail)
          go_wp2_with fail
          have HB5 := HB.out.step (W' := wr.drewN nq) ⟨rfl, rfl, rfl, Nat.le_refl _, fun _ _ => rfl⟩
          rw [← HU.out] at HB5
          go_roundg (4 - (3 + 1) + 1)
          case measure => omega
          case rel => exact ⟨4, rfl, by omega, by omega, HB5⟩
    · obtain rfl : j = 4 := by omega
      have cl := (HB.out.box 0 _ _ rfl).lt
      have c0 := (HB.out.box 0 _ _ rfl).cell 0 _ rfl
      have c1 := (HB.out.box 0 _ _ rfl).cell 1 _ rfl
      have c2 := (HB.out.box 0 _ _ rfl).cell 2 _ rfl
      have c3 := (HB.out.box 0 _ _ rfl).cell 3 _ rfl
      have c4 := (HB.out.box 0 _ _ rfl).cell 4 _ rfl
      have c5 := (HB.out.box 0 _ _ rfl).cell 5 _ rfl
      have c6 := (HB.out.box 0 _ _ rfl).cell 6 _ rfl
      have c7 := (HB.out.box 0 _ _ rfl).cell 7 _ rfl
      have c8 := (HB.out.box 0 _ _ rfl).cell 8 _ rfl
      have c9 := (HB.out.box 0 _ _ rfl).cell 9 _ rfl
      have c10 := (HB.out.box 0 _ _ rfl).cell 10 _ rfl
      have c11 := (HB.out.box 0 _ _ rfl).cell 11 _ rfl
      have dl := (HB.out.box 2 _ _ rfl).lt
      have d0 := (HB.out.box 2 _ _ rfl).cell 0 _ rfl
      have d1 := (HB.out.box 2 _ _ rfl).cell 1 _ rfl
      have d2 := (HB.out.box 2 _ _ rfl).cell 2 _ rfl
      have d3 := (HB.out.box 2 _ _ rfl).cell 3 _ rfl
      have d4 := (HB.out.box 2 _ _ rfl).cell 4 _ rfl
      have d5 := (HB.out.box 2 _ _ rfl).cell 5 _ rfl
      have d6 := (HB.out.box 2 _ _ rfl).cell 6 _ rfl
      have d7 := (HB.out.box 2 _ _ rfl).cell 7 _ rfl
      have d8 := (HB.out.box 2 _ _ rfl).cell 8 _ rfl
      have d9 := (HB.out.box 2 _ _ rfl).cell 9 _ rfl
      have d10 := (HB.out.box 2 _ _ rfl).cell 10 _ rfl
      have d11 := (HB.out.box 2 _ _ rfl).cell 11 _ rfl
      have df0 := (HB.out.box 2 _ _ rfl).froz 0 _ rfl
      have df1 := (HB.out.box 2 _ _ rfl).froz 1 _ rfl
      have df2 := (HB.out.box 2 _ _ rfl).froz 2 _ rfl
      have df3 := (HB.out.box 2 _ _ rfl).froz 3 _ rfl
      have df4 := (HB.out.box 2 _ _ rfl).froz 4 _ rfl
      have df5 := (HB.out.box 2 _ _ rfl).froz 5 _ rfl
      have df6 := (HB.out.box 2 _ _ rfl).froz 6 _ rfl
      have df7 := (HB.out.box 2 _ _ rfl).froz 7 _ rfl
      have df8 := (HB.out.box 2 _ _ rfl).froz 8 _ rfl
      have df9 := (HB.out.box 2 _ _ rfl).froz 9 _ rfl
      have df10 := (HB.out.box 2 _ _ rfl).froz 10 _ rfl
      have df11 := (HB.out.box 2 _ _ rfl).froz 11 _ rfl
      go_wp2_with fail
      obtain ⟨w6, hw6, HB3⟩ := HB.out.team 2 _ _ A rfl rfl
      rw [hw6]
      rw [HZ.out] at HB3
      have yl := (HB3.box 2 _ _ rfl).lt
      have y0 := (HB3.box 2 _ _ rfl).cell 0 _ rfl
      have y1 := (HB3.box 2 _ _ rfl).cell 1 _ rfl
      have y2 := (HB3.box 2 _ _ rfl).cell 2 _ rfl
      have y3 := (HB3.box 2 _ _ rfl).cell 3 _ rfl
      have y4 := (HB3.box 2 _ _ rfl).cell 4 _ rfl
      have y5 := (HB3.box 2 _ _ rfl).cell 5 _ rfl
      have y6 := (HB3.box 2 _ _ rfl).cell 6 _ rfl
      have y7 := (HB3.box 2 _ _ rfl).cell 7 _ rfl
      have y8 := (HB3.box 2 _ _ rfl).cell 8 _ rfl
      have y9 := (HB3.box 2 _ _ rfl).cell 9 _ rfl
      have y10 := (HB3.box 2 _ _ rfl).cell 10 _ rfl
      have y11 := (HB3.box 2 _ _ rfl).cell 11 _ rfl
      rw [HZ.out]
      refine bodyPost_ret (by simp [results, Try.results24, go_sem, y0, y1, y2, y3, y4, y5, y6, y7, y8, y9, y10, y11]; try rfl) rfl ?_
      exact ⟨rfl, HB3.bel⟩

/-- how many of the first j lanes are active -/
def acN (t : Nat → St) : Nat → Nat
  | 0 => 0
  | j + 1 => acN t j + (if (t j).m = 1 then 1 else 0)
theorem acN_le (t : Nat → St) (j : Nat) : acN t j ≤ j := by
  induction j with
  | zero => exact Nat.le_refl _
  | succ j ih =>
    show acN t j + (if (t j).m = 1 then 1 else 0) ≤ j + 1
    split <;> omega
theorem acN_yes {t : Nat → St} {j : Nat} (h : (t j).m = 1) : acN t (j + 1) = acN t j + 1 := by
  show acN t j + (if (t j).m = 1 then 1 else 0) = _
  rw [if_pos h]
theorem acN_no {t : Nat → St} {j : Nat} (h : ¬ (t j).m = 1) : acN t (j + 1) = acN t j := by
  show acN t j + (if (t j).m = 1 then 1 else 0) = _
  rw [if_neg h]; rfl

set_option maxHeartbeats 8000000 in
theorem rmany_any (t : Nat → St) (w : World) : Calls Try.prog 25 #[.agg #[.int .i64 (t 0).m, .bool (t 0).f, .int .i64 (t 0).n, .int .i64 (t 1).m, .bool (t 1).f, .int .i64 (t 1).n, .int .i64 (t 2).m, .bool (t 2).f, .int .i64 (t 2).n, .int .i64 (t 3).m, .bool (t 3).f, .int .i64 (t 3).n]] w fun r w' => r = .returned (.int .i64 (acN t 4)) ∧ Below w.heap.size w w' := by
  have B0 : Hid (_) := bxs_one1 w #[.int .i64 (t 0).m, .bool (t 0).f, .int .i64 (t 0).n, .int .i64 (t 1).m, .bool (t 1).f, .int .i64 (t 1).n, .int .i64 (t 2).m, .bool (t 2).f, .int .i64 (t 2).n, .int .i64 (t 3).m, .bool (t 3).f, .int .i64 (t 3).n] 25
  obtain ⟨i0, i1, i2, i3⟩ := ixT t
  go_enter Try.func25, Try.ntmps25
  go_wp2_with fail
  go_loopg [3, 7] (5) (fun g v s wr => ∃ j k : Nat, v = .int .i64 k ∧ s = .int .i64 j ∧ 4 - j < g ∧ j ≤ 4 ∧ k ≤ j ∧ Hid (acN t j = k) ∧ Hid (Below w.heap.size w wr))
  case atStart => exact ⟨0, 0, rfl, rfl, by omega, by omega, by omega, rfl, B0.out.bel⟩
  case round =>
    obtain ⟨j, k, rfl, rfl, hg, hj, hk, HK, HB⟩ := hrel
    clear B0
    by_cases hlt : j < 4
    · obtain rfl | rfl | rfl | rfl := cases4 hlt
      · by_cases h : (t 0).m = 1
        · have HN : Hid (acN t (0 + 1) = k + 1) := (acN_yes h).trans (congrArg (· + 1) HK.out)
          have h1 : ((t 0).m == 1) = true := by simpa using h
          clear h
          go_wp2_with fail
          go_roundg (4 - (0 + 1) + 1)
          case measure => omega
          case rel => exact ⟨1, k + 1, by go_num, rfl, by omega, by omega, by omega, HN.out, HB.out.alloc HB.out.size _⟩
        · have HN : Hid (acN t (0 + 1) = k) := (acN_no h).trans HK.out
          have h1 : ((t 0).m == 1) = false := by simpa using h
          clear h
          go_wp2_with fail
          go_roundg (4 - (0 + 1) + 1)
          case measure => omega
          case rel => exact ⟨1, k, rfl, rfl, by omega, by omega, by omega, HN.out, HB.out.alloc HB.out.size _⟩
      · by_cases h : (t 1).m = 1
        · have HN : Hid (acN t (1 + 1) = k + 1) := (acN_yes h).trans (congrArg (· + 1) HK.out)
          have h1 : ((t 1).m == 1) = true := by simpa using h
          clear h
          go_wp2_with fail
          go_roundg (4 - (1 + 1) + 1)
          case measure => omega
          case rel => exact ⟨2, k + 1, by go_num, rfl, by omega, by omega, by omega, HN.out, HB.out.alloc HB.out.size _⟩
        · have HN : Hid (acN t (1 + 1) = k) := (acN_no h).trans HK.out
          have h1 : ((t 1).m == 1) = false := by simpa using h
          clear h
          go_wp2_with fail
          go_roundg (4 - (1 + 1) + 1)
          case measure => omega
          case rel => exact ⟨2, k, rfl, rfl, by omega, by omega, by omega, HN.out, HB.out.alloc HB.out.size _⟩
      · by_cases h : (t 2).m = 1
        · have HN : Hid (acN t (2 + 1) = k + 1) := (acN_yes h).trans (congrArg (· + 1) HK.out)
          have h1 : ((t 2).m == 1) = true := by simpa using h
          clear h
          go_wp2_with fail
          go_roundg (4 - (2 + 1) + 1)
          case measure => omega
          case rel => exact ⟨3, k + 1, by go_num, rfl, by omega, by omega, by omega, HN.out, HB.out.alloc HB.out.size _⟩
        · have HN : Hid (acN t (2 + 1) = k) := (acN_no h).trans HK.out
          have h1 : ((t 2).m == 1) = false := by simpa using h
          clear h
          go_wp2_with fail
          go_roundg (4 - (2 + 1) + 1)
          case measure => omega
          case rel => exact ⟨3, k, rfl, rfl, by omega, by omega, by omega, HN.out, HB.out.alloc HB.out.size _⟩
      · by_cases h : (t 3).m = 1
        · have HN : Hid (acN t (3 + 1) = k + 1) := (acN_yes h).trans (congrArg (· + 1) HK.out)
          have h1 : ((t 3).m == 1) = true := by simpa using h
          clear h
          go_wp2_with fail
          go_roundg (4 - (3 + 1) + 1)
          case measure => omega
          case rel => exact ⟨4, k + 1, by go_num, rfl, by omega, by omega, by omega, HN.out, HB.out.alloc HB.out.size _⟩
        · have HN : Hid (acN t (3 + 1) = k) := (acN_no h).trans HK.out
          have h1 : ((t 3).m == 1) = false := by simpa using h
          clear h
          go_wp2_with fail
          go_roundg (4 - (3 + 1) + 1)
          case measure => omega
          case rel => exact ⟨4, k, rfl, rfl, by omega, by omega, by omega, HN.out, HB.out.alloc HB.out.size _⟩
    · obtain rfl : j = 4 := by omega
      go_wp2_with fail
      go_returns
      exact ⟨by rw [HK.out]; rfl, HB.out⟩

end Go.Proofs.Ytnomceopmjlbhaa
