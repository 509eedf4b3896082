/-
  Contract of oil.Supply: whatever is handed in.
-/
import Derived.Test.YtebfjlgmljfnlaaOil
namespace Go.Proofs.Ytebfjlgmljfnlaa
open Go.RowKit
set_option linter.unusedVariables false

theorem lay6 (w : World) (a b c d e f : Array Value) (t1 t2 t3 t4 t5 t6 : TypeId) : Lay w [a.toList, b.toList, c.toList, d.toList, e.toList, f.toList] ((((((w.alloc (.cells a t1)).alloc (.cells b t2)).alloc (.cells c t3)).alloc (.cells d t4)).alloc (.cells e t5)).alloc (.cells f t6)) := (lay5 w a b c d e t1 t2 t3 t4 t5).push (by simp) f t6
theorem cases4 {j : Nat} (h : j < 4) : j = 0 ∨ j = 1 ∨ j = 2 ∨ j = 3 := by omega
/-- the first j of some numbers, and nothing behind -/
def upI (j i : Nat) (x : Int) : Int := if i < j then x else 0
/-- the oil of a lane: the pressure of its source, nothing where it has none -/
def supI (a b : Bool) (p q : Int) (k : Nat) : Int := if srcB a b k then (if srcN a b k = 0 then p else q) else 0
/-- lane j has system n's oil, or none -/
def Ol (p q n e s : Int) (h : Bool) : Prop := (e = 0 ∧ h = true ∧ n = 0 ∧ s = p) ∨ (e = 0 ∧ h = true ∧ n = 1 ∧ s = q) ∨ (e = 7 ∧ h = false ∧ s = 0)
theorem ol_any (a b : Bool) (p q : Int) {j : Nat} (h : j < 4) : Ol p q (srcN a b j) (srcE a b j) (supI a b p q j) (srcB a b j) := by
  obtain rfl | rfl | rfl | rfl := cases4 h <;> cases a <;> cases b <;>
    first
    | exact Or.inl ⟨rfl, rfl, rfl, rfl⟩
    | exact Or.inr (Or.inl ⟨rfl, rfl, rfl, rfl⟩)
    | exact Or.inr (Or.inr ⟨rfl, rfl, rfl⟩)

/-- the boxes while the lanes are gone through: the first j have got what they get -/
def OL (w : World) (a b : Bool) (p q : Int) (S : Nat → Int) (H : Nat → Bool) (j : Nat) (W : World) : Prop :=
  Lay w [[.bool a, .bool b], [.int .i32 p, .int .i32 q], [.int .i32 0, .int .i32 0, .int .i32 0, .int .i32 0], [.bool false, .bool false, .bool false, .bool false], [.int .i32 (upI j 0 (S 0)), .int .i32 (upI j 1 (S 1)), .int .i32 (upI j 2 (S 2)), .int .i32 (upI j 3 (S 3))], [.bool (upB j 0 (H 0)), .bool (upB j 1 (H 1)), .bool (upB j 2 (H 2)), .bool (upB j 3 (H 3))]] W
theorem OL.step {w : World} {a b : Bool} {p q : Int} {S : Nat → Int} {H : Nat → Bool} {j : Nat} {W W' : World} (h : OL w a b p q S H j W) (hb : Below W.heap.size W W') : OL w a b p q S H j W' := Lay.step h hb
theorem OL.lay {w : World} {a b : Bool} {p q : Int} {S : Nat → Int} {H : Nat → Bool} {j : Nat} {W : World} (h : OL w a b p q S H j W) : Lay w [[.bool a, .bool b], [.int .i32 p, .int .i32 q], [.int .i32 0, .int .i32 0, .int .i32 0, .int .i32 0], [.bool false, .bool false, .bool false, .bool false], [.int .i32 (upI j 0 (S 0)), .int .i32 (upI j 1 (S 1)), .int .i32 (upI j 2 (S 2)), .int .i32 (upI j 3 (S 3))], [.bool (upB j 0 (H 0)), .bool (upB j 1 (H 1)), .bool (upB j 2 (H 2)), .bool (upB j 3 (H 3))]] W := h
/-- a lane gets its oil -/
theorem OL.store {w : World} {a b : Bool} {p q : Int} {S : Nat → Int} {H : Nat → Bool} {j : Nat} {W : World} (h : OL w a b p q S H j W) (hj : j < 4) {s : Int} (hs : S j = s) (hH : H j = true) :
    OL w a b p q S H (j + 1) ((W.setCell ⟨w.heap.size + 1 + 1 + 1 + 1, j, none⟩ (.int .i32 s)).setCell ⟨w.heap.size + 1 + 1 + 1 + 1 + 1, j, none⟩ (.bool true)) := by
  subst hs
  rw [← hH]
  have h1 := Lay.set h 4 (w.heap.size + 1 + 1 + 1 + 1) j _ (.int .i32 (S j)) rfl rfl (by simpa using hj)
  have h2 := h1.set 5 (w.heap.size + 1 + 1 + 1 + 1 + 1) j _ (.bool (H j)) rfl rfl (by simpa using hj)
  obtain rfl | rfl | rfl | rfl := cases4 hj <;> exact h2
/-- a lane that gets none -/
theorem OL.same {w : World} {a b : Bool} {p q : Int} {S : Nat → Int} {H : Nat → Bool} {j : Nat} {W : World} (h : OL w a b p q S H j W) (hs : S j = 0) (hH : H j = false) : OL w a b p q S H (j + 1) W := by
  have e1 : ∀ i, upI (j + 1) i (S i) = upI j i (S i) := fun i => by
    unfold upI
    by_cases e : i = j
    · subst e
      rw [if_pos (by omega), if_neg (by omega), hs]
    · by_cases z : i < j
      · rw [if_pos (by omega), if_pos z]
      · rw [if_neg (by omega), if_neg z]
  have e2 : ∀ i, upB (j + 1) i (H i) = upB j i (H i) := fun i => by
    unfold upB
    by_cases e : i = j
    · subst e
      rw [if_pos (by omega), if_neg (by omega), hH]
    · by_cases z : i < j
      · rw [if_pos (by omega), if_pos z]
      · rw [if_neg (by omega), if_neg z]
  unfold OL
  rw [e1, e1, e1, e1, e2, e2, e2, e2]
  exact h

set_option maxHeartbeats 16000000 in
set_option maxRecDepth 100000 in
theorem supply_core (a b : Bool) (p q : Int) (N E S : Nat → Int) (H : Nat → Bool) (w : World) (HP : Hid (∀ j, j < 4 → Ol p q (N j) (E j) (S j) (H j)))
    (K0 : Hid (∀ W, Calls Try.prog 6 #[.agg #[.bool a, .bool b], .int .i64 0] W fun e w' => e = .returned (.tuple #[.int .i64 (N 0), .int .i64 (E 0)]) ∧ Below W.heap.size W w'))
    (K1 : Hid (∀ W, Calls Try.prog 6 #[.agg #[.bool a, .bool b], .int .i64 1] W fun e w' => e = .returned (.tuple #[.int .i64 (N 1), .int .i64 (E 1)]) ∧ Below W.heap.size W w'))
    (K2 : Hid (∀ W, Calls Try.prog 6 #[.agg #[.bool a, .bool b], .int .i64 2] W fun e w' => e = .returned (.tuple #[.int .i64 (N 2), .int .i64 (E 2)]) ∧ Below W.heap.size W w'))
    (K3 : Hid (∀ W, Calls Try.prog 6 #[.agg #[.bool a, .bool b], .int .i64 3] W fun e w' => e = .returned (.tuple #[.int .i64 (N 3), .int .i64 (E 3)]) ∧ Below W.heap.size W w')) :
    Calls Try.prog 7 #[.agg #[.bool a, .bool b], .agg #[.int .i32 p, .int .i32 q]] w fun e w' => e = .returned (.tuple #[.agg #[.int .i32 (S 0), .int .i32 (S 1), .int .i32 (S 2), .int .i32 (S 3)], .agg #[.bool (H 0), .bool (H 1), .bool (H 2), .bool (H 3)]]) ∧ Below w.heap.size w w' := by
  have B0 : Hid (OL w a b p q S H 0 _) := lay6 w #[.bool a, .bool b] #[.int .i32 p, .int .i32 q] #[.int .i32 0, .int .i32 0, .int .i32 0, .int .i32 0] #[.bool false, .bool false, .bool false, .bool false] #[.int .i32 0, .int .i32 0, .int .i32 0, .int .i32 0] #[.bool false, .bool false, .bool false, .bool false] 22 23 29 30 29 30
  go_enter Try.func7, Try.ntmps7
  go_wp2_with fail
  go_loopg [11] (5) (fun g s wr => ∃ j : Nat, s = .int .i64 j ∧ 4 - j < g ∧ j ≤ 4 ∧ Hid (OL w a b p q S H j wr))
  case atStart => exact ⟨0, rfl, by omega, by omega, B0⟩
  case round =>
    obtain ⟨j, rfl, hg, hj, HB⟩ := hrel
    clear B0
    by_cases hlt : j < 4
    · obtain rfl | rfl | rfl | rfl := cases4 hlt
      · skip
        have cl := ((HB.out.lay).blk 0 (w.heap.size) _ rfl rfl).lt
        have c0 := ((HB.out.lay).blk 0 (w.heap.size) _ rfl rfl).cell 0 _ rfl
        have c1 := ((HB.out.lay).blk 0 (w.heap.size) _ rfl rfl).cell 1 _ rfl
        go_wp2_with fail
        refine (K0.out _).mono ?_
        rintro r w5 ⟨rfl, hb⟩
        have HB2 : Hid (OL w a b p q S H 0 w5) := HB.out.step hb
        clear hb cl c0 c1 HB
        rcases HP.out 0 (by omega) with ⟨he, hh, hn, hs⟩ | ⟨he, hh, hn, hs⟩ | ⟨he, hh, hs⟩
        · rw [he, hn]
          have dl := ((HB2.out.lay).blk 1 (w.heap.size + 1) _ rfl rfl).lt
          have d0 := ((HB2.out.lay).blk 1 (w.heap.size + 1) _ rfl rfl).cell 0 _ rfl
          have d1 := ((HB2.out.lay).blk 1 (w.heap.size + 1) _ rfl rfl).cell 1 _ rfl
          have xl := ((HB2.out.lay).blk 4 (w.heap.size + 1 + 1 + 1 + 1) _ rfl rfl).lt
          have x0 := ((HB2.out.lay).blk 4 (w.heap.size + 1 + 1 + 1 + 1) _ rfl rfl).cell 0 _ rfl
          have x1 := ((HB2.out.lay).blk 4 (w.heap.size + 1 + 1 + 1 + 1) _ rfl rfl).cell 1 _ rfl
          have x2 := ((HB2.out.lay).blk 4 (w.heap.size + 1 + 1 + 1 + 1) _ rfl rfl).cell 2 _ rfl
          have x3 := ((HB2.out.lay).blk 4 (w.heap.size + 1 + 1 + 1 + 1) _ rfl rfl).cell 3 _ rfl
          have xf0 := ((HB2.out.lay).blk 4 (w.heap.size + 1 + 1 + 1 + 1) _ rfl rfl).froz 0 _ rfl
          have xf1 := ((HB2.out.lay).blk 4 (w.heap.size + 1 + 1 + 1 + 1) _ rfl rfl).froz 1 _ rfl
          have xf2 := ((HB2.out.lay).blk 4 (w.heap.size + 1 + 1 + 1 + 1) _ rfl rfl).froz 2 _ rfl
          have xf3 := ((HB2.out.lay).blk 4 (w.heap.size + 1 + 1 + 1 + 1) _ rfl rfl).froz 3 _ rfl
          have yl := ((HB2.out.lay).blk 5 (w.heap.size + 1 + 1 + 1 + 1 + 1) _ rfl rfl).lt
          have y0 := ((HB2.out.lay).blk 5 (w.heap.size + 1 + 1 + 1 + 1 + 1) _ rfl rfl).cell 0 _ rfl
          have y1 := ((HB2.out.lay).blk 5 (w.heap.size + 1 + 1 + 1 + 1 + 1) _ rfl rfl).cell 1 _ rfl
          have y2 := ((HB2.out.lay).blk 5 (w.heap.size + 1 + 1 + 1 + 1 + 1) _ rfl rfl).cell 2 _ rfl
          have y3 := ((HB2.out.lay).blk 5 (w.heap.size + 1 + 1 + 1 + 1 + 1) _ rfl rfl).cell 3 _ rfl
          have yf0 := ((HB2.out.lay).blk 5 (w.heap.size + 1 + 1 + 1 + 1 + 1) _ rfl rfl).froz 0 _ rfl
          have yf1 := ((HB2.out.lay).blk 5 (w.heap.size + 1 + 1 + 1 + 1 + 1) _ rfl rfl).froz 1 _ rfl
          have yf2 := ((HB2.out.lay).blk 5 (w.heap.size + 1 + 1 + 1 + 1 + 1) _ rfl rfl).froz 2 _ rfl
          have yf3 := ((HB2.out.lay).blk 5 (w.heap.size + 1 + 1 + 1 + 1 + 1) _ rfl rfl).froz 3 _ rfl
          have HS : Hid (_) := hs
          have HH : Hid (_) := hh
          clear he hn hs hh
          go_wp2_with fail
          go_roundg (4 - (0 + 1) + 1)
          case measure => omega
          case rel => exact ⟨1, rfl, by omega, by omega, HB2.out.store (by omega) HS.out HH.out⟩
        · rw [he, hn]
          have dl := ((HB2.out.lay).blk 1 (w.heap.size + 1) _ rfl rfl).lt
          have d0 := ((HB2.out.lay).blk 1 (w.heap.size + 1) _ rfl rfl).cell 0 _ rfl
          have d1 := ((HB2.out.lay).blk 1 (w.heap.size + 1) _ rfl rfl).cell 1 _ rfl
          have xl := ((HB2.out.lay).blk 4 (w.heap.size + 1 + 1 + 1 + 1) _ rfl rfl).lt
          have x0 := ((HB2.out.lay).blk 4 (w.heap.size + 1 + 1 + 1 + 1) _ rfl rfl).cell 0 _ rfl
          have x1 := ((HB2.out.lay).blk 4 (w.heap.size + 1 + 1 + 1 + 1) _ rfl rfl).cell 1 _ rfl
          have x2 := ((HB2.out.lay).blk 4 (w.heap.size + 1 + 1 + 1 + 1) _ rfl rfl).cell 2 _ rfl
          have x3 := ((HB2.out.lay).blk 4 (w.heap.size + 1 + 1 + 1 + 1) _ rfl rfl).cell 3 _ rfl
          have xf0 := ((HB2.out.lay).blk 4 (w.heap.size + 1 + 1 + 1 + 1) _ rfl rfl).froz 0 _ rfl
          have xf1 := ((HB2.out.lay).blk 4 (w.heap.size + 1 + 1 + 1 + 1) _ rfl rfl).froz 1 _ rfl
          have xf2 := ((HB2.out.lay).blk 4 (w.heap.size + 1 + 1 + 1 + 1) _ rfl rfl).froz 2 _ rfl
          have xf3 := ((HB2.out.lay).blk 4 (w.heap.size + 1 + 1 + 1 + 1) _ rfl rfl).froz 3 _ rfl
          have yl := ((HB2.out.lay).blk 5 (w.heap.size + 1 + 1 + 1 + 1 + 1) _ rfl rfl).lt
          have y0 := ((HB2.out.lay).blk 5 (w.heap.size + 1 + 1 + 1 + 1 + 1) _ rfl rfl).cell 0 _ rfl
          have y1 := ((HB2.out.lay).blk 5 (w.heap.size + 1 + 1 + 1 + 1 + 1) _ rfl rfl).cell 1 _ rfl
          have y2 := ((HB2.out.lay).blk 5 (w.heap.size + 1 + 1 + 1 + 1 + 1) _ rfl rfl).cell 2 _ rfl
          have y3 := ((HB2.out.lay).blk 5 (w.heap.size + 1 + 1 + 1 + 1 + 1) _ rfl rfl).cell 3 _ rfl
          have yf0 := ((HB2.out.lay).blk 5 (w.heap.size + 1 + 1 + 1 + 1 + 1) _ rfl rfl).froz 0 _ rfl
          have yf1 := ((HB2.out.lay).blk 5 (w.heap.size + 1 + 1 + 1 + 1 + 1) _ rfl rfl).froz 1 _ rfl
          have yf2 := ((HB2.out.lay).blk 5 (w.heap.size + 1 + 1 + 1 + 1 + 1) _ rfl rfl).froz 2 _ rfl
          have yf3 := ((HB2.out.lay).blk 5 (w.heap.size + 1 + 1 + 1 + 1 + 1) _ rfl rfl).froz 3 _ rfl
          have HS : Hid (_) := hs
          have HH : Hid (_) := hh
          clear he hn hs hh
          go_wp2_with fail
          go_roundg (4 - (0 + 1) + 1)
          case measure => omega
          case rel => exact ⟨1, rfl, by omega, by omega, HB2.out.store (by omega) HS.out HH.out⟩
        · rw [he]
          have HS : Hid (_) := hs
          have HH : Hid (_) := hh
          clear he hs hh
          go_wp2_with fail
          go_roundg (4 - (0 + 1) + 1)
          case measure => omega
          case rel => exact ⟨1, rfl, by omega, by omega, HB2.out.same HS.out HH.out⟩
      · skip
        have cl := ((HB.out.lay).blk 0 (w.heap.size) _ rfl rfl).lt
        have c0 := ((HB.out.lay).blk 0 (w.heap.size) _ rfl rfl).cell 0 _ rfl
        have c1 := ((HB.out.lay).blk 0 (w.heap.size) _ rfl rfl).cell 1 _ rfl
        go_wp2_with fail
        refine (K1.out _).mono ?_
        rintro r w5 ⟨rfl, hb⟩
        have HB2 : Hid (OL w a b p q S H 1 w5) := HB.out.step hb
        clear hb cl c0 c1 HB
        rcases HP.out 1 (by omega) with ⟨he, hh, hn, hs⟩ | ⟨he, hh, hn, hs⟩ | ⟨he, hh, hs⟩
        · rw [he, hn]
          have dl := ((HB2.out.lay).blk 1 (w.heap.size + 1) _ rfl rfl).lt
          have d0 := ((HB2.out.lay).blk 1 (w.heap.size + 1) _ rfl rfl).cell 0 _ rfl
          have d1 := ((HB2.out.lay).blk 1 (w.heap.size + 1) _ rfl rfl).cell 1 _ rfl
          have xl := ((HB2.out.lay).blk 4 (w.heap.size + 1 + 1 + 1 + 1) _ rfl rfl).lt
          have x0 := ((HB2.out.lay).blk 4 (w.heap.size + 1 + 1 + 1 + 1) _ rfl rfl).cell 0 _ rfl
          have x1 := ((HB2.out.lay).blk 4 (w.heap.size + 1 + 1 + 1 + 1) _ rfl rfl).cell 1 _ rfl
          have x2 := ((HB2.out.lay).blk 4 (w.heap.size + 1 + 1 + 1 + 1) _ rfl rfl).cell 2 _ rfl
          have x3 := ((HB2.out.lay).blk 4 (w.heap.size + 1 + 1 + 1 + 1) _ rfl rfl).cell 3 _ rfl
          have xf0 := ((HB2.out.lay).blk 4 (w.heap.size + 1 + 1 + 1 + 1) _ rfl rfl).froz 0 _ rfl
          have xf1 := ((HB2.out.lay).blk 4 (w.heap.size + 1 + 1 + 1 + 1) _ rfl rfl).froz 1 _ rfl
          have xf2 := ((HB2.out.lay).blk 4 (w.heap.size + 1 + 1 + 1 + 1) _ rfl rfl).froz 2 _ rfl
          have xf3 := ((HB2.out.lay).blk 4 (w.heap.size + 1 + 1 + 1 + 1) _ rfl rfl).froz 3 _ rfl
          have yl := ((HB2.out.lay).blk 5 (w.heap.size + 1 + 1 + 1 + 1 + 1) _ rfl rfl).lt
          have y0 := ((HB2.out.lay).blk 5 (w.heap.size + 1 + 1 + 1 + 1 + 1) _ rfl rfl).cell 0 _ rfl
          have y1 := ((HB2.out.lay).blk 5 (w.heap.size + 1 + 1 + 1 + 1 + 1) _ rfl rfl).cell 1 _ rfl
          have y2 := ((HB2.out.lay).blk 5 (w.heap.size + 1 + 1 + 1 + 1 + 1) _ rfl rfl).cell 2 _ rfl
          have y3 := ((HB2.out.lay).blk 5 (w.heap.size + 1 + 1 + 1 + 1 + 1) _ rfl rfl).cell 3 _ rfl
          have yf0 := ((HB2.out.lay).blk 5 (w.heap.size + 1 + 1 + 1 + 1 + 1) _ rfl rfl).froz 0 _ rfl
          have yf1 := ((HB2.out.lay).blk 5 (w.heap.size + 1 + 1 + 1 + 1 + 1) _ rfl rfl).froz 1 _ rfl
          have yf2 := ((HB2.out.lay).blk 5 (w.heap.size + 1 + 1 + 1 + 1 + 1) _ rfl rfl).froz 2 _ rfl
          have yf3 := ((HB2.out.lay).blk 5 (w.heap.size + 1 + 1 + 1 + 1 + 1) _ rfl rfl).froz 3 _ rfl
          have HS : Hid (_) := hs
          have HH : Hid (_) := hh
          clear he hn hs hh
          go_wp2_with fail
          go_roundg (4 - (1 + 1) + 1)
          case measure => omega
          case rel => exact ⟨2, rfl, by omega, by omega, HB2.out.store (by omega) HS.out HH.out⟩
        · rw [he, hn]
          have dl := ((HB2.out.lay).blk 1 (w.heap.size + 1) _ rfl rfl).lt
          have d0 := ((HB2.out.lay).blk 1 (w.heap.size + 1) _ rfl rfl).cell 0 _ rfl
          have d1 := ((HB2.out.lay).blk 1 (w.heap.size + 1) _ rfl rfl).cell 1 _ rfl
          have xl := ((HB2.out.lay).blk 4 (w.heap.size + 1 + 1 + 1 + 1) _ rfl rfl).lt
          have x0 := ((HB2.out.lay).blk 4 (w.heap.size + 1 + 1 + 1 + 1) _ rfl rfl).cell 0 _ rfl
          have x1 := ((HB2.out.lay).blk 4 (w.heap.size + 1 + 1 + 1 + 1) _ rfl rfl).cell 1 _ rfl
          have x2 := ((HB2.out.lay).blk 4 (w.heap.size + 1 + 1 + 1 + 1) _ rfl rfl).cell 2 _ rfl
          have x3 := ((HB2.out.lay).blk 4 (w.heap.size + 1 + 1 + 1 + 1) _ rfl rfl).cell 3 _ rfl
          have xf0 := ((HB2.out.lay).blk 4 (w.heap.size + 1 + 1 + 1 + 1) _ rfl rfl).froz 0 _ rfl
          have xf1 := ((HB2.out.lay).blk 4 (w.heap.size + 1 + 1 + 1 + 1) _ rfl rfl).froz 1 _ rfl
          have xf2 := ((HB2.out.lay).blk 4 (w.heap.size + 1 + 1 + 1 + 1) _ rfl rfl).froz 2 _ rfl
          have xf3 := ((HB2.out.lay).blk 4 (w.heap.size + 1 + 1 + 1 + 1) _ rfl rfl).froz 3 _ rfl
          have yl := ((HB2.out.lay).blk 5 (w.heap.size + 1 + 1 + 1 + 1 + 1) _ rfl rfl).lt
          have y0 := ((HB2.out.lay).blk 5 (w.heap.size + 1 + 1 + 1 + 1 + 1) _ rfl rfl).cell 0 _ rfl
          have y1 := ((HB2.out.lay).blk 5 (w.heap.size + 1 + 1 + 1 + 1 + 1) _ rfl rfl).cell 1 _ rfl
          have y2 := ((HB2.out.lay).blk 5 (w.heap.size + 1 + 1 + 1 + 1 + 1) _ rfl rfl).cell 2 _ rfl
          have y3 := ((HB2.out.lay).blk 5 (w.heap.size + 1 + 1 + 1 + 1 + 1) _ rfl rfl).cell 3 _ rfl
          have yf0 := ((HB2.out.lay).blk 5 (w.heap.size + 1 + 1 + 1 + 1 + 1) _ rfl rfl).froz 0 _ rfl
          have yf1 := ((HB2.out.lay).blk 5 (w.heap.size + 1 + 1 + 1 + 1 + 1) _ rfl rfl).froz 1 _ rfl
          have yf2 := ((HB2.out.lay).blk 5 (w.heap.size + 1 + 1 + 1 + 1 + 1) _ rfl rfl).froz 2 _ rfl
          have yf3 := ((HB2.out.lay).blk 5 (w.heap.size + 1 + 1 + 1 + 1 + 1) _ rfl rfl).froz 3 _ rfl
          have HS : Hid (_) := hs
          have HH : Hid (_) := hh
          clear he hn hs hh
          go_wp2_with fail
          go_roundg (4 - (1 + 1) + 1)
          case measure => omega
          case rel => exact ⟨2, rfl, by omega, by omega, HB2.out.store (by omega) HS.out HH.out⟩
        · rw [he]
          have HS : Hid (_) := hs
          have HH : Hid (_) := hh
          clear he hs hh
          go_wp2_with fail
          go_roundg (4 - (1 + 1) + 1)
          case measure => omega
          case rel => exact ⟨2, rfl, by omega, by omega, HB2.out.same HS.out HH.out⟩
      · skip
        have cl := ((HB.out.lay).blk 0 (w.heap.size) _ rfl rfl).lt
        have c0 := ((HB.out.lay).blk 0 (w.heap.size) _ rfl rfl).cell 0 _ rfl
        have c1 := ((HB.out.lay).blk 0 (w.heap.size) _ rfl rfl).cell 1 _ rfl
        go_wp2_with fail
        refine (K2.out _).mono ?_
        rintro r w5 ⟨rfl, hb⟩
        have HB2 : Hid (OL w a b p q S H 2 w5) := HB.out.step hb
        clear hb cl c0 c1 HB
        rcases HP.out 2 (by omega) with ⟨he, hh, hn, hs⟩ | ⟨he, hh, hn, hs⟩ | ⟨he, hh, hs⟩
        · rw [he, hn]
          have dl := ((HB2.out.lay).blk 1 (w.heap.size + 1) _ rfl rfl).lt
          have d0 := ((HB2.out.lay).blk 1 (w.heap.size + 1) _ rfl rfl).cell 0 _ rfl
          have d1 := ((HB2.out.lay).blk 1 (w.heap.size + 1) _ rfl rfl).cell 1 _ rfl
          have xl := ((HB2.out.lay).blk 4 (w.heap.size + 1 + 1 + 1 + 1) _ rfl rfl).lt
          have x0 := ((HB2.out.lay).blk 4 (w.heap.size + 1 + 1 + 1 + 1) _ rfl rfl).cell 0 _ rfl
          have x1 := ((HB2.out.lay).blk 4 (w.heap.size + 1 + 1 + 1 + 1) _ rfl rfl).cell 1 _ rfl
          have x2 := ((HB2.out.lay).blk 4 (w.heap.size + 1 + 1 + 1 + 1) _ rfl rfl).cell 2 _ rfl
          have x3 := ((HB2.out.lay).blk 4 (w.heap.size + 1 + 1 + 1 + 1) _ rfl rfl).cell 3 _ rfl
          have xf0 := ((HB2.out.lay).blk 4 (w.heap.size + 1 + 1 + 1 + 1) _ rfl rfl).froz 0 _ rfl
          have xf1 := ((HB2.out.lay).blk 4 (w.heap.size + 1 + 1 + 1 + 1) _ rfl rfl).froz 1 _ rfl
          have xf2 := ((HB2.out.lay).blk 4 (w.heap.size + 1 + 1 + 1 + 1) _ rfl rfl).froz 2 _ rfl
          have xf3 := ((HB2.out.lay).blk 4 (w.heap.size + 1 + 1 + 1 + 1) _ rfl rfl).froz 3 _ rfl
          have yl := ((HB2.out.lay).blk 5 (w.heap.size + 1 + 1 + 1 + 1 + 1) _ rfl rfl).lt
          have y0 := ((HB2.out.lay).blk 5 (w.heap.size + 1 + 1 + 1 + 1 + 1) _ rfl rfl).cell 0 _ rfl
          have y1 := ((HB2.out.lay).blk 5 (w.heap.size + 1 + 1 + 1 + 1 + 1) _ rfl rfl).cell 1 _ rfl
          have y2 := ((HB2.out.lay).blk 5 (w.heap.size + 1 + 1 + 1 + 1 + 1) _ rfl rfl).cell 2 _ rfl
          have y3 := ((HB2.out.lay).blk 5 (w.heap.size + 1 + 1 + 1 + 1 + 1) _ rfl rfl).cell 3 _ rfl
          have yf0 := ((HB2.out.lay).blk 5 (w.heap.size + 1 + 1 + 1 + 1 + 1) _ rfl rfl).froz 0 _ rfl
          have yf1 := ((HB2.out.lay).blk 5 (w.heap.size + 1 + 1 + 1 + 1 + 1) _ rfl rfl).froz 1 _ rfl
          have yf2 := ((HB2.out.lay).blk 5 (w.heap.size + 1 + 1 + 1 + 1 + 1) _ rfl rfl).froz 2 _ rfl
          have yf3 := ((HB2.out.lay).blk 5 (w.heap.size + 1 + 1 + 1 + 1 + 1) _ rfl rfl).froz 3 _ rfl
          have HS : Hid (_) := hs
          have HH : Hid (_) := hh
          clear he hn hs hh
          go_wp2_with fail
          go_roundg (4 - (2 + 1) + 1)
          case measure => omega
          case rel => exact ⟨3, rfl, by omega, by omega, HB2.out.store (by omega) HS.out HH.out⟩
        · rw [he, hn]
          have dl := ((HB2.out.lay).blk 1 (w.heap.size + 1) _ rfl rfl).lt
          have d0 := ((HB2.out.lay).blk 1 (w.heap.size + 1) _ rfl rfl).cell 0 _ rfl
          have d1 := ((HB2.out.lay).blk 1 (w.heap.size + 1) _ rfl rfl).cell 1 _ rfl
          have xl := ((HB2.out.lay).blk 4 (w.heap.size + 1 + 1 + 1 + 1) _ rfl rfl).lt
          have x0 := ((HB2.out.lay).blk 4 (w.heap.size + 1 + 1 + 1 + 1) _ rfl rfl).cell 0 _ rfl
          have x1 := ((HB2.out.lay).blk 4 (w.heap.size + 1 + 1 + 1 + 1) _ rfl rfl).cell 1 _ rfl
          have x2 := ((HB2.out.lay).blk 4 (w.heap.size + 1 + 1 + 1 + 1) _ rfl rfl).cell 2 _ rfl
          have x3 := ((HB2.out.lay).blk 4 (w.heap.size + 1 + 1 + 1 + 1) _ rfl rfl).cell 3 _ rfl
          have xf0 := ((HB2.out.lay).blk 4 (w.heap.size + 1 + 1 + 1 + 1) _ rfl rfl).froz 0 _ rfl
          have xf1 := ((HB2.out.lay).blk 4 (w.heap.size + 1 + 1 + 1 + 1) _ rfl rfl).froz 1 _ rfl
          have xf2 := ((HB2.out.lay).blk 4 (w.heap.size + 1 + 1 + 1 + 1) _ rfl rfl).froz 2 _ rfl
          have xf3 := ((HB2.out.lay).blk 4 (w.heap.size + 1 + 1 + 1 + 1) _ rfl rfl).froz 3 _ rfl
          have yl := ((HB2.out.lay).blk 5 (w.heap.size + 1 + 1 + 1 + 1 + 1) _ rfl rfl).lt
          have y0 := ((HB2.out.lay).blk 5 (w.heap.size + 1 + 1 + 1 + 1 + 1) _ rfl rfl).cell 0 _ rfl
          have y1 := ((HB2.out.lay).blk 5 (w.heap.size + 1 + 1 + 1 + 1 + 1) _ rfl rfl).cell 1 _ rfl
          have y2 := ((HB2.out.lay).blk 5 (w.heap.size + 1 + 1 + 1 + 1 + 1) _ rfl rfl).cell 2 _ rfl
          have y3 := ((HB2.out.lay).blk 5 (w.heap.size + 1 + 1 + 1 + 1 + 1) _ rfl rfl).cell 3 _ rfl
          have yf0 := ((HB2.out.lay).blk 5 (w.heap.size + 1 + 1 + 1 + 1 + 1) _ rfl rfl).froz 0 _ rfl
          have yf1 := ((HB2.out.lay).blk 5 (w.heap.size + 1 + 1 + 1 + 1 + 1) _ rfl rfl).froz 1 _ rfl
          have yf2 := ((HB2.out.lay).blk 5 (w.heap.size + 1 + 1 + 1 + 1 + 1) _ rfl rfl).froz 2 _ rfl
          have yf3 := ((HB2.out.lay).blk 5 (w.heap.size + 1 + 1 + 1 + 1 + 1) _ rfl rfl).froz 3 _ rfl
          have HS : Hid (_) := hs
          have HH : Hid (_) := hh
          clear he hn hs hh
          go_wp2_with fail
          go_roundg (4 - (2 + 1) + 1)
          case measure => omega
          case rel => exact ⟨3, rfl, by omega, by omega, HB2.out.store (by omega) HS.out HH.out⟩
        · rw [he]
          have HS : Hid (_) := hs
          have HH : Hid (_) := hh
          clear he hs hh
          go_wp2_with fail
          go_roundg (4 - (2 + 1) + 1)
          case measure => omega
          case rel => exact ⟨3, rfl, by omega, by omega, HB2.out.same HS.out HH.out⟩
      · skip
        have cl := ((HB.out.lay).blk 0 (w.heap.size) _ rfl rfl).lt
        have c0 := ((HB.out.lay).blk 0 (w.heap.size) _ rfl rfl).cell 0 _ rfl
        have c1 := ((HB.out.lay).blk 0 (w.heap.size) _ rfl rfl).cell 1 _ rfl
        go_wp2_with fail
        refine (K3.out _).mono ?_
        rintro r w5 ⟨rfl, hb⟩
        have HB2 : Hid (OL w a b p q S H 3 w5) := HB.out.step hb
        clear hb cl c0 c1 HB
        rcases HP.out 3 (by omega) with ⟨he, hh, hn, hs⟩ | ⟨he, hh, hn, hs⟩ | ⟨he, hh, hs⟩
        · rw [he, hn]
          have dl := ((HB2.out.lay).blk 1 (w.heap.size + 1) _ rfl rfl).lt
          have d0 := ((HB2.out.lay).blk 1 (w.heap.size + 1) _ rfl rfl).cell 0 _ rfl
          have d1 := ((HB2.out.lay).blk 1 (w.heap.size + 1) _ rfl rfl).cell 1 _ rfl
          have xl := ((HB2.out.lay).blk 4 (w.heap.size + 1 + 1 + 1 + 1) _ rfl rfl).lt
          have x0 := ((HB2.out.lay).blk 4 (w.heap.size + 1 + 1 + 1 + 1) _ rfl rfl).cell 0 _ rfl
          have x1 := ((HB2.out.lay).blk 4 (w.heap.size + 1 + 1 + 1 + 1) _ rfl rfl).cell 1 _ rfl
          have x2 := ((HB2.out.lay).blk 4 (w.heap.size + 1 + 1 + 1 + 1) _ rfl rfl).cell 2 _ rfl
          have x3 := ((HB2.out.lay).blk 4 (w.heap.size + 1 + 1 + 1 + 1) _ rfl rfl).cell 3 _ rfl
          have xf0 := ((HB2.out.lay).blk 4 (w.heap.size + 1 + 1 + 1 + 1) _ rfl rfl).froz 0 _ rfl
          have xf1 := ((HB2.out.lay).blk 4 (w.heap.size + 1 + 1 + 1 + 1) _ rfl rfl).froz 1 _ rfl
          have xf2 := ((HB2.out.lay).blk 4 (w.heap.size + 1 + 1 + 1 + 1) _ rfl rfl).froz 2 _ rfl
          have xf3 := ((HB2.out.lay).blk 4 (w.heap.size + 1 + 1 + 1 + 1) _ rfl rfl).froz 3 _ rfl
          have yl := ((HB2.out.lay).blk 5 (w.heap.size + 1 + 1 + 1 + 1 + 1) _ rfl rfl).lt
          have y0 := ((HB2.out.lay).blk 5 (w.heap.size + 1 + 1 + 1 + 1 + 1) _ rfl rfl).cell 0 _ rfl
          have y1 := ((HB2.out.lay).blk 5 (w.heap.size + 1 + 1 + 1 + 1 + 1) _ rfl rfl).cell 1 _ rfl
          have y2 := ((HB2.out.lay).blk 5 (w.heap.size + 1 + 1 + 1 + 1 + 1) _ rfl rfl).cell 2 _ rfl
          have y3 := ((HB2.out.lay).blk 5 (w.heap.size + 1 + 1 + 1 + 1 + 1) _ rfl rfl).cell 3 _ rfl
          have yf0 := ((HB2.out.lay).blk 5 (w.heap.size + 1 + 1 + 1 + 1 + 1) _ rfl rfl).froz 0 _ rfl
          have yf1 := ((HB2.out.lay).blk 5 (w.heap.size + 1 + 1 + 1 + 1 + 1) _ rfl rfl).froz 1 _ rfl
          have yf2 := ((HB2.out.lay).blk 5 (w.heap.size + 1 + 1 + 1 + 1 + 1) _ rfl rfl).froz 2 _ rfl
          have yf3 := ((HB2.out.lay).blk 5 (w.heap.size + 1 + 1 + 1 + 1 + 1) _ rfl rfl).froz 3 _ rfl
          have HS : Hid (_) := hs
          have HH : Hid (_) := hh
          clear he hn hs hh
          go_wp2_with fail
          go_roundg (4 - (3 + 1) + 1)
          case measure => omega
          case rel => exact ⟨4, rfl, by omega, by omega, HB2.out.store (by omega) HS.out HH.out⟩
        · rw [he, hn]
          have dl := ((HB2.out.lay).blk 1 (w.heap.size + 1) _ rfl rfl).lt
          have d0 := ((HB2.out.lay).blk 1 (w.heap.size + 1) _ rfl rfl).cell 0 _ rfl
          have d1 := ((HB2.out.lay).blk 1 (w.heap.size + 1) _ rfl rfl).cell 1 _ rfl
          have xl := ((HB2.out.lay).blk 4 (w.heap.size + 1 + 1 + 1 + 1) _ rfl rfl).lt
          have x0 := ((HB2.out.lay).blk 4 (w.heap.size + 1 + 1 + 1 + 1) _ rfl rfl).cell 0 _ rfl
          have x1 := ((HB2.out.lay).blk 4 (w.heap.size + 1 + 1 + 1 + 1) _ rfl rfl).cell 1 _ rfl
          have x2 := ((HB2.out.lay).blk 4 (w.heap.size + 1 + 1 + 1 + 1) _ rfl rfl).cell 2 _ rfl
          have x3 := ((HB2.out.lay).blk 4 (w.heap.size + 1 + 1 + 1 + 1) _ rfl rfl).cell 3 _ rfl
          have xf0 := ((HB2.out.lay).blk 4 (w.heap.size + 1 + 1 + 1 + 1) _ rfl rfl).froz 0 _ rfl
          have xf1 := ((HB2.out.lay).blk 4 (w.heap.size + 1 + 1 + 1 + 1) _ rfl rfl).froz 1 _ rfl
          have xf2 := ((HB2.out.lay).blk 4 (w.heap.size + 1 + 1 + 1 + 1) _ rfl rfl).froz 2 _ rfl
          have xf3 := ((HB2.out.lay).blk 4 (w.heap.size + 1 + 1 + 1 + 1) _ rfl rfl).froz 3 _ rfl
          have yl := ((HB2.out.lay).blk 5 (w.heap.size + 1 + 1 + 1 + 1 + 1) _ rfl rfl).lt
          have y0 := ((HB2.out.lay).blk 5 (w.heap.size + 1 + 1 + 1 + 1 + 1) _ rfl rfl).cell 0 _ rfl
          have y1 := ((HB2.out.lay).blk 5 (w.heap.size + 1 + 1 + 1 + 1 + 1) _ rfl rfl).cell 1 _ rfl
          have y2 := ((HB2.out.lay).blk 5 (w.heap.size + 1 + 1 + 1 + 1 + 1) _ rfl rfl).cell 2 _ rfl
          have y3 := ((HB2.out.lay).blk 5 (w.heap.size + 1 + 1 + 1 + 1 + 1) _ rfl rfl).cell 3 _ rfl
          have yf0 := ((HB2.out.lay).blk 5 (w.heap.size + 1 + 1 + 1 + 1 + 1) _ rfl rfl).froz 0 _ rfl
          have yf1 := ((HB2.out.lay).blk 5 (w.heap.size + 1 + 1 + 1 + 1 + 1) _ rfl rfl).froz 1 _ rfl
          have yf2 := ((HB2.out.lay).blk 5 (w.heap.size + 1 + 1 + 1 + 1 + 1) _ rfl rfl).froz 2 _ rfl
          have yf3 := ((HB2.out.lay).blk 5 (w.heap.size + 1 + 1 + 1 + 1 + 1) _ rfl rfl).froz 3 _ rfl
          have HS : Hid (_) := hs
          have HH : Hid (_) := hh
          clear he hn hs hh
          go_wp2_with fail
          go_roundg (4 - (3 + 1) + 1)
          case measure => omega
          case rel => exact ⟨4, rfl, by omega, by omega, HB2.out.store (by omega) HS.out HH.out⟩
        · rw [he]
          have HS : Hid (_) := hs
          have HH : Hid (_) := hh
          clear he hs hh
          go_wp2_with fail
          go_roundg (4 - (3 + 1) + 1)
          case measure => omega
          case rel => exact ⟨4, rfl, by omega, by omega, HB2.out.same HS.out HH.out⟩
    · obtain rfl : j = 4 := by omega
      have ul := ((HB.out.lay).blk 2 (w.heap.size + 1 + 1) _ rfl rfl).lt
      have u0 := ((HB.out.lay).blk 2 (w.heap.size + 1 + 1) _ rfl rfl).cell 0 _ rfl
      have u1 := ((HB.out.lay).blk 2 (w.heap.size + 1 + 1) _ rfl rfl).cell 1 _ rfl
      have u2 := ((HB.out.lay).blk 2 (w.heap.size + 1 + 1) _ rfl rfl).cell 2 _ rfl
      have u3 := ((HB.out.lay).blk 2 (w.heap.size + 1 + 1) _ rfl rfl).cell 3 _ rfl
      have uf0 := ((HB.out.lay).blk 2 (w.heap.size + 1 + 1) _ rfl rfl).froz 0 _ rfl
      have uf1 := ((HB.out.lay).blk 2 (w.heap.size + 1 + 1) _ rfl rfl).froz 1 _ rfl
      have uf2 := ((HB.out.lay).blk 2 (w.heap.size + 1 + 1) _ rfl rfl).froz 2 _ rfl
      have uf3 := ((HB.out.lay).blk 2 (w.heap.size + 1 + 1) _ rfl rfl).froz 3 _ rfl
      have vl := ((HB.out.lay).blk 3 (w.heap.size + 1 + 1 + 1) _ rfl rfl).lt
      have v0 := ((HB.out.lay).blk 3 (w.heap.size + 1 + 1 + 1) _ rfl rfl).cell 0 _ rfl
      have v1 := ((HB.out.lay).blk 3 (w.heap.size + 1 + 1 + 1) _ rfl rfl).cell 1 _ rfl
      have v2 := ((HB.out.lay).blk 3 (w.heap.size + 1 + 1 + 1) _ rfl rfl).cell 2 _ rfl
      have v3 := ((HB.out.lay).blk 3 (w.heap.size + 1 + 1 + 1) _ rfl rfl).cell 3 _ rfl
      have vf0 := ((HB.out.lay).blk 3 (w.heap.size + 1 + 1 + 1) _ rfl rfl).froz 0 _ rfl
      have vf1 := ((HB.out.lay).blk 3 (w.heap.size + 1 + 1 + 1) _ rfl rfl).froz 1 _ rfl
      have vf2 := ((HB.out.lay).blk 3 (w.heap.size + 1 + 1 + 1) _ rfl rfl).froz 2 _ rfl
      have vf3 := ((HB.out.lay).blk 3 (w.heap.size + 1 + 1 + 1) _ rfl rfl).froz 3 _ rfl
      have xl := ((HB.out.lay).blk 4 (w.heap.size + 1 + 1 + 1 + 1) _ rfl rfl).lt
      have x0 := ((HB.out.lay).blk 4 (w.heap.size + 1 + 1 + 1 + 1) _ rfl rfl).cell 0 _ rfl
      have x1 := ((HB.out.lay).blk 4 (w.heap.size + 1 + 1 + 1 + 1) _ rfl rfl).cell 1 _ rfl
      have x2 := ((HB.out.lay).blk 4 (w.heap.size + 1 + 1 + 1 + 1) _ rfl rfl).cell 2 _ rfl
      have x3 := ((HB.out.lay).blk 4 (w.heap.size + 1 + 1 + 1 + 1) _ rfl rfl).cell 3 _ rfl
      have yl := ((HB.out.lay).blk 5 (w.heap.size + 1 + 1 + 1 + 1 + 1) _ rfl rfl).lt
      have y0 := ((HB.out.lay).blk 5 (w.heap.size + 1 + 1 + 1 + 1 + 1) _ rfl rfl).cell 0 _ rfl
      have y1 := ((HB.out.lay).blk 5 (w.heap.size + 1 + 1 + 1 + 1 + 1) _ rfl rfl).cell 1 _ rfl
      have y2 := ((HB.out.lay).blk 5 (w.heap.size + 1 + 1 + 1 + 1 + 1) _ rfl rfl).cell 2 _ rfl
      have y3 := ((HB.out.lay).blk 5 (w.heap.size + 1 + 1 + 1 + 1 + 1) _ rfl rfl).cell 3 _ rfl
      go_wp2_with fail
      go_region
      all_goals (try go_wp2_with fail)
      obtain ⟨w3, hw3, B2⟩ := HB.out.lay.put4 2 (w.heap.size + 1 + 1) (.int .i32 (upI 4 0 (S 0))) (.int .i32 (upI 4 1 (S 1))) (.int .i32 (upI 4 2 (S 2))) (.int .i32 (upI 4 3 (S 3))) rfl rfl
      rw [hw3]
      obtain ⟨w4, hw4, B3⟩ := B2.put4 3 (w.heap.size + 1 + 1 + 1) (.bool (upB 4 0 (H 0))) (.bool (upB 4 1 (H 1))) (.bool (upB 4 2 (H 2))) (.bool (upB 4 3 (H 3))) rfl rfl
      rw [hw4]
      have B4 := B3.drew
      generalize w4.drew = w6 at *
      have fl := (B4.blk 2 (w.heap.size + 1 + 1) _ rfl rfl).lt
      have f0 := (B4.blk 2 (w.heap.size + 1 + 1) _ rfl rfl).cell 0 _ rfl
      have f1 := (B4.blk 2 (w.heap.size + 1 + 1) _ rfl rfl).cell 1 _ rfl
      have f2 := (B4.blk 2 (w.heap.size + 1 + 1) _ rfl rfl).cell 2 _ rfl
      have f3 := (B4.blk 2 (w.heap.size + 1 + 1) _ rfl rfl).cell 3 _ rfl
      have gl := (B4.blk 3 (w.heap.size + 1 + 1 + 1) _ rfl rfl).lt
      have g0 := (B4.blk 3 (w.heap.size + 1 + 1 + 1) _ rfl rfl).cell 0 _ rfl
      have g1 := (B4.blk 3 (w.heap.size + 1 + 1 + 1) _ rfl rfl).cell 1 _ rfl
      have g2 := (B4.blk 3 (w.heap.size + 1 + 1 + 1) _ rfl rfl).cell 2 _ rfl
      have g3 := (B4.blk 3 (w.heap.size + 1 + 1 + 1) _ rfl rfl).cell 3 _ rfl
      refine bodyPost_ret (by simp [results, Try.results7, go_sem, f0, f1, f2, f3, g0, g1, g2, g3]; try rfl) rfl ?_
      exact ⟨rfl, B4.bel⟩

theorem supply_any (a b : Bool) (p q : Int) (w : World) : Calls Try.prog 7 #[.agg #[.bool a, .bool b], .agg #[.int .i32 p, .int .i32 q]] w fun e w' => e = .returned (.tuple #[.agg #[.int .i32 (supI a b p q 0), .int .i32 (supI a b p q 1), .int .i32 (supI a b p q 2), .int .i32 (supI a b p q 3)], .agg #[.bool (srcB a b 0), .bool (srcB a b 1), .bool (srcB a b 2), .bool (srcB a b 3)]]) ∧ Below w.heap.size w w' :=
  supply_core a b p q (srcN a b) (srcE a b) (supI a b p q) (srcB a b) w (fun j hj => ol_any a b p q hj) (fun W => source_0 a b W) (fun W => source_1 a b W) (fun W => source_2 a b W) (fun W => source_3 a b W)

end Go.Proofs.Ytebfjlgmljfnlaa
