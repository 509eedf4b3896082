/-
  Contracts of the document's own OilStep, Source and Supply (package steadref): whatever is handed in.
-/
import Derived.Test.YtebfjlgmljfnlaaOilSup
import Derived.Test.YtebfjlgmljfnlaaRFilt
namespace Go.Proofs.Ytebfjlgmljfnlaa
open Go.RowKit
set_option linter.unusedVariables false

set_option maxHeartbeats 4000000 in
set_option maxRecDepth 100000 in
theorem roilStep_any (a b : Bool) (p q h l : Int) (w : World) : Calls Try.prog 9 #[.agg #[.bool a, .bool b], .agg #[.int .i32 p, .int .i32 q], .int .i32 h, .int .i32 l] w fun e w' => e = .returned (.agg #[.bool (tripB a p h l), .bool (tripB b q h l)]) ∧ Below w.heap.size w w' := by
  have B0 : Hid (_) := lay3 w #[.bool a, .bool b] #[.int .i32 p, .int .i32 q] #[.bool false, .bool false] 22 23 22
  obtain ⟨T, hT⟩ : ∃ T : Bool → Int → Bool, T = fun o x => tripB o x h l := ⟨_, rfl⟩
  have CT : Hid (∀ o x W, Calls Try.prog 14 #[.bool o, .int .i32 x, .int .i32 h, .int .i32 l] W fun e w' => e = .returned (.bool (T o x)) ∧ w' = W) := fun o x W => by
    rw [hT]
    exact rtrip_any o x h l W
  have e0 : tripB a p h l = T a p := by rw [hT]
  have e1 : tripB b q h l = T b q := by rw [hT]
  rw [e0, e1]
  clear hT e0 e1
  go_enter Try.func9, Try.ntmps9
  go_wp2_with fail
  generalize hW : ((w.alloc (.cells #[.bool a, .bool b] 22)).alloc (.cells #[.int .i32 p, .int .i32 q] 23)).alloc (.cells #[.bool false, .bool false] 22) = W at *
  clear hW
  have cl := (B0.out.blk 0 (w.heap.size) _ rfl rfl).lt
  have c0 := (B0.out.blk 0 (w.heap.size) _ rfl rfl).cell 0 _ rfl
  have c1 := (B0.out.blk 0 (w.heap.size) _ rfl rfl).cell 1 _ rfl
  have dl := (B0.out.blk 1 (w.heap.size + 1) _ rfl rfl).lt
  have d0 := (B0.out.blk 1 (w.heap.size + 1) _ rfl rfl).cell 0 _ rfl
  have d1 := (B0.out.blk 1 (w.heap.size + 1) _ rfl rfl).cell 1 _ rfl
  have nl := (B0.out.blk 2 (w.heap.size + 1 + 1) _ rfl rfl).lt
  have n0 := (B0.out.blk 2 (w.heap.size + 1 + 1) _ rfl rfl).cell 0 _ rfl
  have n1 := (B0.out.blk 2 (w.heap.size + 1 + 1) _ rfl rfl).cell 1 _ rfl
  have nf0 := (B0.out.blk 2 (w.heap.size + 1 + 1) _ rfl rfl).froz 0 _ rfl
  have nf1 := (B0.out.blk 2 (w.heap.size + 1 + 1) _ rfl rfl).froz 1 _ rfl
  have HX := ((B0.out.set 2 (w.heap.size + 1 + 1) 0 _ (.bool (T a p)) rfl rfl (by simp)).again (j := 1) (.bool (T b q)) rfl rfl (by simp)).drew
  have HX0 := (HX.blk 0 (w.heap.size) _ rfl rfl).cell 0 _ rfl
  have HX1 := (HX.blk 0 (w.heap.size) _ rfl rfl).cell 1 _ rfl
  have HX2 := (HX.blk 1 (w.heap.size + 1) _ rfl rfl).cell 0 _ rfl
  have HX3 := (HX.blk 1 (w.heap.size + 1) _ rfl rfl).cell 1 _ rfl
  have HY : Hid (_) := HX
  clear HX
  go_region_held3 (fun w' => (w'.cell? ⟨w.heap.size, 0, none⟩ = some (.bool a) ∧ w'.cell? ⟨w.heap.size, 1, none⟩ = some (.bool b)) ∧ w'.cell? ⟨w.heap.size + 1, 0, none⟩ = some (.int .i32 p) ∧ w'.cell? ⟨w.heap.size + 1, 1, none⟩ = some (.int .i32 q)) (go_keep) (first | (go_at_call 14; refine (CT.out _ _ _).mono ?_; rintro r w5 ⟨rfl, rfl⟩))
  all_goals (try go_wp2_with fail)
  have f0 := (HY.out.blk 2 (w.heap.size + 1 + 1) _ rfl rfl).cell 0 _ rfl
  have f1 := (HY.out.blk 2 (w.heap.size + 1 + 1) _ rfl rfl).cell 1 _ rfl
  refine bodyPost_ret (by simp [results, Try.results9, go_sem, f0, f1]; try rfl) rfl ?_
  exact ⟨rfl, HY.out.bel⟩

/-- the document's own number of a source: below 0 where there is none -/
def srcR (a b : Bool) (k : Nat) : Int := if srcB a b k then srcN a b k else -1

set_option maxHeartbeats 8000000 in
theorem rsource_0 (a b : Bool) (w : World) : Calls Try.prog 10 #[.agg #[.bool a, .bool b], .int .i64 0] w fun e w' => e = .returned (.int .i64 (srcR a b 0)) ∧ Below w.heap.size w w' := by
  cases a <;> cases b <;>
    (go_enter Try.func10, Try.ntmps10
     go_wp2_with fail
     go_returns
     exact ⟨rfl, by go_grown⟩)

set_option maxHeartbeats 8000000 in
theorem rsource_1 (a b : Bool) (w : World) : Calls Try.prog 10 #[.agg #[.bool a, .bool b], .int .i64 1] w fun e w' => e = .returned (.int .i64 (srcR a b 1)) ∧ Below w.heap.size w w' := by
  cases a <;> cases b <;>
    (go_enter Try.func10, Try.ntmps10
     go_wp2_with fail
     go_returns
     exact ⟨rfl, by go_grown⟩)

set_option maxHeartbeats 8000000 in
theorem rsource_2 (a b : Bool) (w : World) : Calls Try.prog 10 #[.agg #[.bool a, .bool b], .int .i64 2] w fun e w' => e = .returned (.int .i64 (srcR a b 2)) ∧ Below w.heap.size w w' := by
  cases a <;> cases b <;>
    (go_enter Try.func10, Try.ntmps10
     go_wp2_with fail
     go_returns
     exact ⟨rfl, by go_grown⟩)

set_option maxHeartbeats 8000000 in
theorem rsource_3 (a b : Bool) (w : World) : Calls Try.prog 10 #[.agg #[.bool a, .bool b], .int .i64 3] w fun e w' => e = .returned (.int .i64 (srcR a b 3)) ∧ Below w.heap.size w w' := by
  cases a <;> cases b <;>
    (go_enter Try.func10, Try.ntmps10
     go_wp2_with fail
     go_returns
     exact ⟨rfl, by go_grown⟩)

/-- lane j has system n's oil, or none -/
def Olr (p q n s : Int) (h : Bool) : Prop := (n = 0 ∧ h = true ∧ s = p) ∨ (n = 1 ∧ h = true ∧ s = q) ∨ (n = -1 ∧ h = false ∧ s = 0)
theorem olr_any (a b : Bool) (p q : Int) {j : Nat} (h : j < 4) : Olr p q (srcR a b j) (supI a b p q j) (srcB a b j) := by
  obtain rfl | rfl | rfl | rfl := cases4 h <;> cases a <;> cases b <;>
    first
    | exact Or.inl ⟨rfl, rfl, rfl⟩
    | exact Or.inr (Or.inl ⟨rfl, rfl, rfl⟩)
    | exact Or.inr (Or.inr ⟨rfl, rfl, rfl⟩)

set_option maxHeartbeats 16000000 in
set_option maxRecDepth 100000 in
theorem rsupply_core (a b : Bool) (p q : Int) (N S : Nat → Int) (H : Nat → Bool) (w : World) (HP : Hid (∀ j, j < 4 → Olr p q (N j) (S j) (H j)))
    (K0 : Hid (∀ W, Calls Try.prog 10 #[.agg #[.bool a, .bool b], .int .i64 0] W fun e w' => e = .returned (.int .i64 (N 0)) ∧ Below W.heap.size W w'))
    (K1 : Hid (∀ W, Calls Try.prog 10 #[.agg #[.bool a, .bool b], .int .i64 1] W fun e w' => e = .returned (.int .i64 (N 1)) ∧ Below W.heap.size W w'))
    (K2 : Hid (∀ W, Calls Try.prog 10 #[.agg #[.bool a, .bool b], .int .i64 2] W fun e w' => e = .returned (.int .i64 (N 2)) ∧ Below W.heap.size W w'))
    (K3 : Hid (∀ W, Calls Try.prog 10 #[.agg #[.bool a, .bool b], .int .i64 3] W fun e w' => e = .returned (.int .i64 (N 3)) ∧ Below W.heap.size W w')) :
    Calls Try.prog 8 #[.agg #[.bool a, .bool b], .agg #[.int .i32 p, .int .i32 q]] w fun e w' => e = .returned (.tuple #[.agg #[.int .i32 (S 0), .int .i32 (S 1), .int .i32 (S 2), .int .i32 (S 3)], .agg #[.bool (H 0), .bool (H 1), .bool (H 2), .bool (H 3)]]) ∧ Below w.heap.size w w' := by
  have B0 : Hid (OL w a b p q S H 0 _) := lay6 w #[.bool a, .bool b] #[.int .i32 p, .int .i32 q] #[.int .i32 0, .int .i32 0, .int .i32 0, .int .i32 0] #[.bool false, .bool false, .bool false, .bool false] #[.int .i32 0, .int .i32 0, .int .i32 0, .int .i32 0] #[.bool false, .bool false, .bool false, .bool false] 22 23 29 30 29 30
  go_enter Try.func8, Try.ntmps8
  go_wp2_with fail
  go_loopg [10] (5) (fun g s wr => ∃ j : Nat, s = .int .i64 j ∧ 4 - j < g ∧ j ≤ 4 ∧ Hid (OL w a b p q S H j wr))
  case atStart => exact ⟨0, rfl, by omega, by omega, B0⟩
  case round =>
    obtain ⟨j, rfl, hg, hj, HB⟩ := hrel
    clear B0
    by_cases hlt : j < 4
    · obtain rfl | rfl | rfl | rfl := cases4 hlt
      · skip
        have cl := ((HB.out.lay).blk 0 (w.heap.size) _ rfl rfl).lt
        have c0 := ((HB.out.lay).blk 0 (w.heap.size) _ rfl rfl).cell 0 _ rfl
        have c1 := ((HB.out.lay).blk 0 (w.heap.size) _ rfl rfl).cell 1 _ rfl
        go_wp2_with fail
        refine (K0.out _).mono ?_
        rintro r w5 ⟨rfl, hb⟩
        have HB2 : Hid (OL w a b p q S H 0 w5) := HB.out.step hb
        clear hb cl c0 c1 HB
        rcases HP.out 0 (by omega) with ⟨hn, hh, hs⟩ | ⟨hn, hh, hs⟩ | ⟨hn, hh, hs⟩
        · rw [hn]
          have dl := ((HB2.out.lay).blk 1 (w.heap.size + 1) _ rfl rfl).lt
          have d0 := ((HB2.out.lay).blk 1 (w.heap.size + 1) _ rfl rfl).cell 0 _ rfl
          have d1 := ((HB2.out.lay).blk 1 (w.heap.size + 1) _ rfl rfl).cell 1 _ rfl
          have xl := ((HB2.out.lay).blk 4 (w.heap.size + 1 + 1 + 1 + 1) _ rfl rfl).lt
          have x0 := ((HB2.out.lay).blk 4 (w.heap.size + 1 + 1 + 1 + 1) _ rfl rfl).cell 0 _ rfl
          have x1 := ((HB2.out.lay).blk 4 (w.heap.size + 1 + 1 + 1 + 1) _ rfl rfl).cell 1 _ rfl
          have x2 := ((HB2.out.lay).blk 4 (w.heap.size + 1 + 1 + 1 + 1) _ rfl rfl).cell 2 _ rfl
          have x3 := ((HB2.out.lay).blk 4 (w.heap.size + 1 + 1 + 1 + 1) _ rfl rfl).cell 3 _ rfl
          have xf0 := ((HB2.out.lay).blk 4 (w.heap.size + 1 + 1 + 1 + 1) _ rfl rfl).froz 0 _ rfl
          have xf1 := ((HB2.out.lay).blk 4 (w.heap.size + 1 + 1 + 1 + 1) _ rfl rfl).froz 1 _ rfl
          have xf2 := ((HB2.out.lay).blk 4 (w.heap.size + 1 + 1 + 1 + 1) _ rfl rfl).froz 2 _ rfl
          have xf3 := ((HB2.out.lay).blk 4 (w.heap.size + 1 + 1 + 1 + 1) _ rfl rfl).froz 3 _ rfl
          have yl := ((HB2.out.lay).blk 5 (w.heap.size + 1 + 1 + 1 + 1 + 1) _ rfl rfl).lt
          have y0 := ((HB2.out.lay).blk 5 (w.heap.size + 1 + 1 + 1 + 1 + 1) _ rfl rfl).cell 0 _ rfl
          have y1 := ((HB2.out.lay).blk 5 (w.heap.size + 1 + 1 + 1 + 1 + 1) _ rfl rfl).cell 1 _ rfl
          have y2 := ((HB2.out.lay).blk 5 (w.heap.size + 1 + 1 + 1 + 1 + 1) _ rfl rfl).cell 2 _ rfl
          have y3 := ((HB2.out.lay).blk 5 (w.heap.size + 1 + 1 + 1 + 1 + 1) _ rfl rfl).cell 3 _ rfl
          have yf0 := ((HB2.out.lay).blk 5 (w.heap.size + 1 + 1 + 1 + 1 + 1) _ rfl rfl).froz 0 _ rfl
          have yf1 := ((HB2.out.lay).blk 5 (w.heap.size + 1 + 1 + 1 + 1 + 1) _ rfl rfl).froz 1 _ rfl
          have yf2 := ((HB2.out.lay).blk 5 (w.heap.size + 1 + 1 + 1 + 1 + 1) _ rfl rfl).froz 2 _ rfl
          have yf3 := ((HB2.out.lay).blk 5 (w.heap.size + 1 + 1 + 1 + 1 + 1) _ rfl rfl).froz 3 _ rfl
          have HS : Hid (_) := hs
          have HH : Hid (_) := hh
          clear hn hs hh
          go_wp2_with fail
          go_roundg (4 - (0 + 1) + 1)
          case measure => omega
          case rel => exact ⟨1, rfl, by omega, by omega, HB2.out.store (by omega) HS.out HH.out⟩
        · rw [hn]
          have dl := ((HB2.out.lay).blk 1 (w.heap.size + 1) _ rfl rfl).lt
          have d0 := ((HB2.out.lay).blk 1 (w.heap.size + 1) _ rfl rfl).cell 0 _ rfl
          have d1 := ((HB2.out.lay).blk 1 (w.heap.size + 1) _ rfl rfl).cell 1 _ rfl
          have xl := ((HB2.out.lay).blk 4 (w.heap.size + 1 + 1 + 1 + 1) _ rfl rfl).lt
          have x0 := ((HB2.out.lay).blk 4 (w.heap.size + 1 + 1 + 1 + 1) _ rfl rfl).cell 0 _ rfl
          have x1 := ((HB2.out.lay).blk 4 (w.heap.size + 1 + 1 + 1 + 1) _ rfl rfl).cell 1 _ rfl
          have x2 := ((HB2.out.lay).blk 4 (w.heap.size + 1 + 1 + 1 + 1) _ rfl rfl).cell 2 _ rfl
          have x3 := ((HB2.out.lay).blk 4 (w.heap.size + 1 + 1 + 1 + 1) _ rfl rfl).cell 3 _ rfl
          have xf0 := ((HB2.out.lay).blk 4 (w.heap.size + 1 + 1 + 1 + 1) _ rfl rfl).froz 0 _ rfl
          have xf1 := ((HB2.out.lay).blk 4 (w.heap.size + 1 + 1 + 1 + 1) _ rfl rfl).froz 1 _ rfl
          have xf2 := ((HB2.out.lay).blk 4 (w.heap.size + 1 + 1 + 1 + 1) _ rfl rfl).froz 2 _ rfl
          have xf3 := ((HB2.out.lay).blk 4 (w.heap.size + 1 + 1 + 1 + 1) _ rfl rfl).froz 3 _ rfl
          have yl := ((HB2.out.lay).blk 5 (w.heap.size + 1 + 1 + 1 + 1 + 1) _ rfl rfl).lt
          have y0 := ((HB2.out.lay).blk 5 (w.heap.size + 1 + 1 + 1 + 1 + 1) _ rfl rfl).cell 0 _ rfl
          have y1 := ((HB2.out.lay).blk 5 (w.heap.size + 1 + 1 + 1 + 1 + 1) _ rfl rfl).cell 1 _ rfl
          have y2 := ((HB2.out.lay).blk 5 (w.heap.size + 1 + 1 + 1 + 1 + 1) _ rfl rfl).cell 2 _ rfl
          have y3 := ((HB2.out.lay).blk 5 (w.heap.size + 1 + 1 + 1 + 1 + 1) _ rfl rfl).cell 3 _ rfl
          have yf0 := ((HB2.out.lay).blk 5 (w.heap.size + 1 + 1 + 1 + 1 + 1) _ rfl rfl).froz 0 _ rfl
          have yf1 := ((HB2.out.lay).blk 5 (w.heap.size + 1 + 1 + 1 + 1 + 1) _ rfl rfl).froz 1 _ rfl
          have yf2 := ((HB2.out.lay).blk 5 (w.heap.size + 1 + 1 + 1 + 1 + 1) _ rfl rfl).froz 2 _ rfl
          have yf3 := ((HB2.out.lay).blk 5 (w.heap.size + 1 + 1 + 1 + 1 + 1) _ rfl rfl).froz 3 _ rfl
          have HS : Hid (_) := hs
          have HH : Hid (_) := hh
          clear hn hs hh
          go_wp2_with fail
          go_roundg (4 - (0 + 1) + 1)
          case measure => omega
          case rel => exact ⟨1, rfl, by omega, by omega, HB2.out.store (by omega) HS.out HH.out⟩
        · rw [hn]
          have HS : Hid (_) := hs
          have HH : Hid (_) := hh
          clear hn hs hh
          go_wp2_with fail
          go_roundg (4 - (0 + 1) + 1)
          case measure => omega
          case rel => exact ⟨1, rfl, by omega, by omega, HB2.out.same HS.out HH.out⟩
      · skip
        have cl := ((HB.out.lay).blk 0 (w.heap.size) _ rfl rfl).lt
        have c0 := ((HB.out.lay).blk 0 (w.heap.size) _ rfl rfl).cell 0 _ rfl
        have c1 := ((HB.out.lay).blk 0 (w.heap.size) _ rfl rfl).cell 1 _ rfl
        go_wp2_with fail
        refine (K1.out _).mono ?_
        rintro r w5 ⟨rfl, hb⟩
        have HB2 : Hid (OL w a b p q S H 1 w5) := HB.out.step hb
        clear hb cl c0 c1 HB
        rcases HP.out 1 (by omega) with ⟨hn, hh, hs⟩ | ⟨hn, hh, hs⟩ | ⟨hn, hh, hs⟩
        · rw [hn]
          have dl := ((HB2.out.lay).blk 1 (w.heap.size + 1) _ rfl rfl).lt
          have d0 := ((HB2.out.lay).blk 1 (w.heap.size + 1) _ rfl rfl).cell 0 _ rfl
          have d1 := ((HB2.out.lay).blk 1 (w.heap.size + 1) _ rfl rfl).cell 1 _ rfl
          have xl := ((HB2.out.lay).blk 4 (w.heap.size + 1 + 1 + 1 + 1) _ rfl rfl).lt
          have x0 := ((HB2.out.lay).blk 4 (w.heap.size + 1 + 1 + 1 + 1) _ rfl rfl).cell 0 _ rfl
          have x1 := ((HB2.out.lay).blk 4 (w.heap.size + 1 + 1 + 1 + 1) _ rfl rfl).cell 1 _ rfl
          have x2 := ((HB2.out.lay).blk 4 (w.heap.size + 1 + 1 + 1 + 1) _ rfl rfl).cell 2 _ rfl
          have x3 := ((HB2.out.lay).blk 4 (w.heap.size + 1 + 1 + 1 + 1) _ rfl rfl).cell 3 _ rfl
          have xf0 := ((HB2.out.lay).blk 4 (w.heap.size + 1 + 1 + 1 + 1) _ rfl rfl).froz 0 _ rfl
          have xf1 := ((HB2.out.lay).blk 4 (w.heap.size + 1 + 1 + 1 + 1) _ rfl rfl).froz 1 _ rfl
          have xf2 := ((HB2.out.lay).blk 4 (w.heap.size + 1 + 1 + 1 + 1) _ rfl rfl).froz 2 _ rfl
          have xf3 := ((HB2.out.lay).blk 4 (w.heap.size + 1 + 1 + 1 + 1) _ rfl rfl).froz 3 _ rfl
          have yl := ((HB2.out.lay).blk 5 (w.heap.size + 1 + 1 + 1 + 1 + 1) _ rfl rfl).lt
          have y0 := ((HB2.out.lay).blk 5 (w.heap.size + 1 + 1 + 1 + 1 + 1) _ rfl rfl).cell 0 _ rfl
          have y1 := ((HB2.out.lay).blk 5 (w.heap.size + 1 + 1 + 1 + 1 + 1) _ rfl rfl).cell 1 _ rfl
          have y2 := ((HB2.out.lay).blk 5 (w.heap.size + 1 + 1 + 1 + 1 + 1) _ rfl rfl).cell 2 _ rfl
          have y3 := ((HB2.out.lay).blk 5 (w.heap.size + 1 + 1 + 1 + 1 + 1) _ rfl rfl).cell 3 _ rfl
          have yf0 := ((HB2.out.lay).blk 5 (w.heap.size + 1 + 1 + 1 + 1 + 1) _ rfl rfl).froz 0 _ rfl
          have yf1 := ((HB2.out.lay).blk 5 (w.heap.size + 1 + 1 + 1 + 1 + 1) _ rfl rfl).froz 1 _ rfl
          have yf2 := ((HB2.out.lay).blk 5 (w.heap.size + 1 + 1 + 1 + 1 + 1) _ rfl rfl).froz 2 _ rfl
          have yf3 := ((HB2.out.lay).blk 5 (w.heap.size + 1 + 1 + 1 + 1 + 1) _ rfl rfl).froz 3 _ rfl
          have HS : Hid (_) := hs
          have HH : Hid (_) := hh
          clear hn hs hh
          go_wp2_with fail
          go_roundg (4 - (1 + 1) + 1)
          case measure => omega
          case rel => exact ⟨2, rfl, by omega, by omega, HB2.out.store (by omega) HS.out HH.out⟩
        · rw [hn]
          have dl := ((HB2.out.lay).blk 1 (w.heap.size + 1) _ rfl rfl).lt
          have d0 := ((HB2.out.lay).blk 1 (w.heap.size + 1) _ rfl rfl).cell 0 _ rfl
          have d1 := ((HB2.out.lay).blk 1 (w.heap.size + 1) _ rfl rfl).cell 1 _ rfl
          have xl := ((HB2.out.lay).blk 4 (w.heap.size + 1 + 1 + 1 + 1) _ rfl rfl).lt
          have x0 := ((HB2.out.lay).blk 4 (w.heap.size + 1 + 1 + 1 + 1) _ rfl rfl).cell 0 _ rfl
          have x1 := ((HB2.out.lay).blk 4 (w.heap.size + 1 + 1 + 1 + 1) _ rfl rfl).cell 1 _ rfl
          have x2 := ((HB2.out.lay).blk 4 (w.heap.size + 1 + 1 + 1 + 1) _ rfl rfl).cell 2 _ rfl
          have x3 := ((HB2.out.lay).blk 4 (w.heap.size + 1 + 1 + 1 + 1) _ rfl rfl).cell 3 _ rfl
          have xf0 := ((HB2.out.lay).blk 4 (w.heap.size + 1 + 1 + 1 + 1) _ rfl rfl).froz 0 _ rfl
          have xf1 := ((HB2.out.lay).blk 4 (w.heap.size + 1 + 1 + 1 + 1) _ rfl rfl).froz 1 _ rfl
          have xf2 := ((HB2.out.lay).blk 4 (w.heap.size + 1 + 1 + 1 + 1) _ rfl rfl).froz 2 _ rfl
          have xf3 := ((HB2.out.lay).blk 4 (w.heap.size + 1 + 1 + 1 + 1) _ rfl rfl).froz 3 _ rfl
          have yl := ((HB2.out.lay).blk 5 (w.heap.size + 1 + 1 + 1 + 1 + 1) _ rfl rfl).lt
          have y0 := ((HB2.out.lay).blk 5 (w.heap.size + 1 + 1 + 1 + 1 + 1) _ rfl rfl).cell 0 _ rfl
          have y1 := ((HB2.out.lay).blk 5 (w.heap.size + 1 + 1 + 1 + 1 + 1) _ rfl rfl).cell 1 _ rfl
          have y2 := ((HB2.out.lay).blk 5 (w.heap.size + 1 + 1 + 1 + 1 + 1) _ rfl rfl).cell 2 _ rfl
          have y3 := ((HB2.out.lay).blk 5 (w.heap.size + 1 + 1 + 1 + 1 + 1) _ rfl rfl).cell 3 _ rfl
          have yf0 := ((HB2.out.lay).blk 5 (w.heap.size + 1 + 1 + 1 + 1 + 1) _ rfl rfl).froz 0 _ rfl
          have yf1 := ((HB2.out.lay).blk 5 (w.heap.size + 1 + 1 + 1 + 1 + 1) _ rfl rfl).froz 1 _ rfl
          have yf2 := ((HB2.out.lay).blk 5 (w.heap.size + 1 + 1 + 1 + 1 + 1) _ rfl rfl).froz 2 _ rfl
          have yf3 := ((HB2.out.lay).blk 5 (w.heap.size + 1 + 1 + 1 + 1 + 1) _ rfl rfl).froz 3 _ rfl
          have HS : Hid (_) := hs
          have HH : Hid (_) := hh
          clear hn hs hh
          go_wp2_with fail
          go_roundg (4 - (1 + 1) + 1)
          case measure => omega
          case rel => exact ⟨2, rfl, by omega, by omega, HB2.out.store (by omega) HS.out HH.out⟩
        · rw [hn]
          have HS : Hid (_) := hs
          have HH : Hid (_) := hh
          clear hn hs hh
          go_wp2_with fail
          go_roundg (4 - (1 + 1) + 1)
          case measure => omega
          case rel => exact ⟨2, rfl, by omega, by omega, HB2.out.same HS.out HH.out⟩
      · skip
        have cl := ((HB.out.lay).blk 0 (w.heap.size) _ rfl rfl).lt
        have c0 := ((HB.out.lay).blk 0 (w.heap.size) _ rfl rfl).cell 0 _ rfl
        have c1 := ((HB.out.lay).blk 0 (w.heap.size) _ rfl rfl).cell 1 _ rfl
        go_wp2_with fail
        refine (K2.out _).mono ?_
        rintro r w5 ⟨rfl, hb⟩
        have HB2 : Hid (OL w a b p q S H 2 w5) := HB.out.step hb
        clear hb cl c0 c1 HB
        rcases HP.out 2 (by omega) with ⟨hn, hh, hs⟩ | ⟨hn, hh, hs⟩ | ⟨hn, hh, hs⟩
        · rw [hn]
          have dl := ((HB2.out.lay).blk 1 (w.heap.size + 1) _ rfl rfl).lt
          have d0 := ((HB2.out.lay).blk 1 (w.heap.size + 1) _ rfl rfl).cell 0 _ rfl
          have d1 := ((HB2.out.lay).blk 1 (w.heap.size + 1) _ rfl rfl).cell 1 _ rfl
          have xl := ((HB2.out.lay).blk 4 (w.heap.size + 1 + 1 + 1 + 1) _ rfl rfl).lt
          have x0 := ((HB2.out.lay).blk 4 (w.heap.size + 1 + 1 + 1 + 1) _ rfl rfl).cell 0 _ rfl
          have x1 := ((HB2.out.lay).blk 4 (w.heap.size + 1 + 1 + 1 + 1) _ rfl rfl).cell 1 _ rfl
          have x2 := ((HB2.out.lay).blk 4 (w.heap.size + 1 + 1 + 1 + 1) _ rfl rfl).cell 2 _ rfl
          have x3 := ((HB2.out.lay).blk 4 (w.heap.size + 1 + 1 + 1 + 1) _ rfl rfl).cell 3 _ rfl
          have xf0 := ((HB2.out.lay).blk 4 (w.heap.size + 1 + 1 + 1 + 1) _ rfl rfl).froz 0 _ rfl
          have xf1 := ((HB2.out.lay).blk 4 (w.heap.size + 1 + 1 + 1 + 1) _ rfl rfl).froz 1 _ rfl
          have xf2 := ((HB2.out.lay).blk 4 (w.heap.size + 1 + 1 + 1 + 1) _ rfl rfl).froz 2 _ rfl
          have xf3 := ((HB2.out.lay).blk 4 (w.heap.size + 1 + 1 + 1 + 1) _ rfl rfl).froz 3 _ rfl
          have yl := ((HB2.out.lay).blk 5 (w.heap.size + 1 + 1 + 1 + 1 + 1) _ rfl rfl).lt
          have y0 := ((HB2.out.lay).blk 5 (w.heap.size + 1 + 1 + 1 + 1 + 1) _ rfl rfl).cell 0 _ rfl
          have y1 := ((HB2.out.lay).blk 5 (w.heap.size + 1 + 1 + 1 + 1 + 1) _ rfl rfl).cell 1 _ rfl
          have y2 := ((HB2.out.lay).blk 5 (w.heap.size + 1 + 1 + 1 + 1 + 1) _ rfl rfl).cell 2 _ rfl
          have y3 := ((HB2.out.lay).blk 5 (w.heap.size + 1 + 1 + 1 + 1 + 1) _ rfl rfl).cell 3 _ rfl
          have yf0 := ((HB2.out.lay).blk 5 (w.heap.size + 1 + 1 + 1 + 1 + 1) _ rfl rfl).froz 0 _ rfl
          have yf1 := ((HB2.out.lay).blk 5 (w.heap.size + 1 + 1 + 1 + 1 + 1) _ rfl rfl).froz 1 _ rfl
          have yf2 := ((HB2.out.lay).blk 5 (w.heap.size + 1 + 1 + 1 + 1 + 1) _ rfl rfl).froz 2 _ rfl
          have yf3 := ((HB2.out.lay).blk 5 (w.heap.size + 1 + 1 + 1 + 1 + 1) _ rfl rfl).froz 3 _ rfl
          have HS : Hid (_) := hs
          have HH : Hid (_) := hh
          clear hn hs hh
          go_wp2_with fail
          go_roundg (4 - (2 + 1) + 1)
          case measure => omega
          case rel => exact ⟨3, rfl, by omega, by omega, HB2.out.store (by omega) HS.out HH.out⟩
        · rw [hn]
          have dl := ((HB2.out.lay).blk 1 (w.heap.size + 1) _ rfl rfl).lt
          have d0 := ((HB2.out.lay).blk 1 (w.heap.size + 1) _ rfl rfl).cell 0 _ rfl
          have d1 := ((HB2.out.lay).blk 1 (w.heap.size + 1) _ rfl rfl).cell 1 _ rfl
          have xl := ((HB2.out.lay).blk 4 (w.heap.size + 1 + 1 + 1 + 1) _ rfl rfl).lt
          have x0 := ((HB2.out.lay).blk 4 (w.heap.size + 1 + 1 + 1 + 1) _ rfl rfl).cell 0 _ rfl
          have x1 := ((HB2.out.lay).blk 4 (w.heap.size + 1 + 1 + 1 + 1) _ rfl rfl).cell 1 _ rfl
          have x2 := ((HB2.out.lay).blk 4 (w.heap.size + 1 + 1 + 1 + 1) _ rfl rfl).cell 2 _ rfl
          have x3 := ((HB2.out.lay).blk 4 (w.heap.size + 1 + 1 + 1 + 1) _ rfl rfl).cell 3 _ rfl
          have xf0 := ((HB2.out.lay).blk 4 (w.heap.size + 1 + 1 + 1 + 1) _ rfl rfl).froz 0 _ rfl
          have xf1 := ((HB2.out.lay).blk 4 (w.heap.size + 1 + 1 + 1 + 1) _ rfl rfl).froz 1 _ rfl
          have xf2 := ((HB2.out.lay).blk 4 (w.heap.size + 1 + 1 + 1 + 1) _ rfl rfl).froz 2 _ rfl
          have xf3 := ((HB2.out.lay).blk 4 (w.heap.size + 1 + 1 + 1 + 1) _ rfl rfl).froz 3 _ rfl
          have yl := ((HB2.out.lay).blk 5 (w.heap.size + 1 + 1 + 1 + 1 + 1) _ rfl rfl).lt
          have y0 := ((HB2.out.lay).blk 5 (w.heap.size + 1 + 1 + 1 + 1 + 1) _ rfl rfl).cell 0 _ rfl
          have y1 := ((HB2.out.lay).blk 5 (w.heap.size + 1 + 1 + 1 + 1 + 1) _ rfl rfl).cell 1 _ rfl
          have y2 := ((HB2.out.lay).blk 5 (w.heap.size + 1 + 1 + 1 + 1 + 1) _ rfl rfl).cell 2 _ rfl
          have y3 := ((HB2.out.lay).blk 5 (w.heap.size + 1 + 1 + 1 + 1 + 1) _ rfl rfl).cell 3 _ rfl
          have yf0 := ((HB2.out.lay).blk 5 (w.heap.size + 1 + 1 + 1 + 1 + 1) _ rfl rfl).froz 0 _ rfl
          have yf1 := ((HB2.out.lay).blk 5 (w.heap.size + 1 + 1 + 1 + 1 + 1) _ rfl rfl).froz 1 _ rfl
          have yf2 := ((HB2.out.lay).blk 5 (w.heap.size + 1 + 1 + 1 + 1 + 1) _ rfl rfl).froz 2 _ rfl
          have yf3 := ((HB2.out.lay).blk 5 (w.heap.size + 1 + 1 + 1 + 1 + 1) _ rfl rfl).froz 3 _ rfl
          have HS : Hid (_) := hs
          have HH : Hid (_) := hh
          clear hn hs hh
          go_wp2_with fail
          go_roundg (4 - (2 + 1) + 1)
          case measure => omega
          case rel => exact ⟨3, rfl, by omega, by omega, HB2.out.store (by omega) HS.out HH.out⟩
        · rw [hn]
          have HS : Hid (_) := hs
          have HH : Hid (_) := hh
          clear hn hs hh
          go_wp2_with fail
          go_roundg (4 - (2 + 1) + 1)
          case measure => omega
          case rel => exact ⟨3, rfl, by omega, by omega, HB2.out.same HS.out HH.out⟩
      · skip
        have cl := ((HB.out.lay).blk 0 (w.heap.size) _ rfl rfl).lt
        have c0 := ((HB.out.lay).blk 0 (w.heap.size) _ rfl rfl).cell 0 _ rfl
        have c1 := ((HB.out.lay).blk 0 (w.heap.size) _ rfl rfl).cell 1 _ rfl
        go_wp2_with fail
        refine (K3.out _).mono ?_
        rintro r w5 ⟨rfl, hb⟩
        have HB2 : Hid (OL w a b p q S H 3 w5) := HB.out.step hb
        clear hb cl c0 c1 HB
        rcases HP.out 3 (by omega) with ⟨hn, hh, hs⟩ | ⟨hn, hh, hs⟩ | ⟨hn, hh, hs⟩
        · rw [hn]
          have dl := ((HB2.out.lay).blk 1 (w.heap.size + 1) _ rfl rfl).lt
          have d0 := ((HB2.out.lay).blk 1 (w.heap.size + 1) _ rfl rfl).cell 0 _ rfl
          have d1 := ((HB2.out.lay).blk 1 (w.heap.size + 1) _ rfl rfl).cell 1 _ rfl
          have xl := ((HB2.out.lay).blk 4 (w.heap.size + 1 + 1 + 1 + 1) _ rfl rfl).lt
          have x0 := ((HB2.out.lay).blk 4 (w.heap.size + 1 + 1 + 1 + 1) _ rfl rfl).cell 0 _ rfl
          have x1 := ((HB2.out.lay).blk 4 (w.heap.size + 1 + 1 + 1 + 1) _ rfl rfl).cell 1 _ rfl
          have x2 := ((HB2.out.lay).blk 4 (w.heap.size + 1 + 1 + 1 + 1) _ rfl rfl).cell 2 _ rfl
          have x3 := ((HB2.out.lay).blk 4 (w.heap.size + 1 + 1 + 1 + 1) _ rfl rfl).cell 3 _ rfl
          have xf0 := ((HB2.out.lay).blk 4 (w.heap.size + 1 + 1 + 1 + 1) _ rfl rfl).froz 0 _ rfl
          have xf1 := ((HB2.out.lay).blk 4 (w.heap.size + 1 + 1 + 1 + 1) _ rfl rfl).froz 1 _ rfl
          have xf2 := ((HB2.out.lay).blk 4 (w.heap.size + 1 + 1 + 1 + 1) _ rfl rfl).froz 2 _ rfl
          have xf3 := ((HB2.out.lay).blk 4 (w.heap.size + 1 + 1 + 1 + 1) _ rfl rfl).froz 3 _ rfl
          have yl := ((HB2.out.lay).blk 5 (w.heap.size + 1 + 1 + 1 + 1 + 1) _ rfl rfl).lt
          have y0 := ((HB2.out.lay).blk 5 (w.heap.size + 1 + 1 + 1 + 1 + 1) _ rfl rfl).cell 0 _ rfl
          have y1 := ((HB2.out.lay).blk 5 (w.heap.size + 1 + 1 + 1 + 1 + 1) _ rfl rfl).cell 1 _ rfl
          have y2 := ((HB2.out.lay).blk 5 (w.heap.size + 1 + 1 + 1 + 1 + 1) _ rfl rfl).cell 2 _ rfl
          have y3 := ((HB2.out.lay).blk 5 (w.heap.size + 1 + 1 + 1 + 1 + 1) _ rfl rfl).cell 3 _ rfl
          have yf0 := ((HB2.out.lay).blk 5 (w.heap.size + 1 + 1 + 1 + 1 + 1) _ rfl rfl).froz 0 _ rfl
          have yf1 := ((HB2.out.lay).blk 5 (w.heap.size + 1 + 1 + 1 + 1 + 1) _ rfl rfl).froz 1 _ rfl
          have yf2 := ((HB2.out.lay).blk 5 (w.heap.size + 1 + 1 + 1 + 1 + 1) _ rfl rfl).froz 2 _ rfl
          have yf3 := ((HB2.out.lay).blk 5 (w.heap.size + 1 + 1 + 1 + 1 + 1) _ rfl rfl).froz 3 _ rfl
          have HS : Hid (_) := hs
          have HH : Hid (_) := hh
          clear hn hs hh
          go_wp2_with fail
          go_roundg (4 - (3 + 1) + 1)
          case measure => omega
          case rel => exact ⟨4, rfl, by omega, by omega, HB2.out.store (by omega) HS.out HH.out⟩
        · rw [hn]
          have dl := ((HB2.out.lay).blk 1 (w.heap.size + 1) _ rfl rfl).lt
          have d0 := ((HB2.out.lay).blk 1 (w.heap.size + 1) _ rfl rfl).cell 0 _ rfl
          have d1 := ((HB2.out.lay).blk 1 (w.heap.size + 1) _ rfl rfl).cell 1 _ rfl
          have xl := ((HB2.out.lay).blk 4 (w.heap.size + 1 + 1 + 1 + 1) _ rfl rfl).lt
          have x0 := ((HB2.out.lay).blk 4 (w.heap.size + 1 + 1 + 1 + 1) _ rfl rfl).cell 0 _ rfl
          have x1 := ((HB2.out.lay).blk 4 (w.heap.size + 1 + 1 + 1 + 1) _ rfl rfl).cell 1 _ rfl
          have x2 := ((HB2.out.lay).blk 4 (w.heap.size + 1 + 1 + 1 + 1) _ rfl rfl).cell 2 _ rfl
          have x3 := ((HB2.out.lay).blk 4 (w.heap.size + 1 + 1 + 1 + 1) _ rfl rfl).cell 3 _ rfl
          have xf0 := ((HB2.out.lay).blk 4 (w.heap.size + 1 + 1 + 1 + 1) _ rfl rfl).froz 0 _ rfl
          have xf1 := ((HB2.out.lay).blk 4 (w.heap.size + 1 + 1 + 1 + 1) _ rfl rfl).froz 1 _ rfl
          have xf2 := ((HB2.out.lay).blk 4 (w.heap.size + 1 + 1 + 1 + 1) _ rfl rfl).froz 2 _ rfl
          have xf3 := ((HB2.out.lay).blk 4 (w.heap.size + 1 + 1 + 1 + 1) _ rfl rfl).froz 3 _ rfl
          have yl := ((HB2.out.lay).blk 5 (w.heap.size + 1 + 1 + 1 + 1 + 1) _ rfl rfl).lt
          have y0 := ((HB2.out.lay).blk 5 (w.heap.size + 1 + 1 + 1 + 1 + 1) _ rfl rfl).cell 0 _ rfl
          have y1 := ((HB2.out.lay).blk 5 (w.heap.size + 1 + 1 + 1 + 1 + 1) _ rfl rfl).cell 1 _ rfl
          have y2 := ((HB2.out.lay).blk 5 (w.heap.size + 1 + 1 + 1 + 1 + 1) _ rfl rfl).cell 2 _ rfl
          have y3 := ((HB2.out.lay).blk 5 (w.heap.size + 1 + 1 + 1 + 1 + 1) _ rfl rfl).cell 3 _ rfl
          have yf0 := ((HB2.out.lay).blk 5 (w.heap.size + 1 + 1 + 1 + 1 + 1) _ rfl rfl).froz 0 _ rfl
          have yf1 := ((HB2.out.lay).blk 5 (w.heap.size + 1 + 1 + 1 + 1 + 1) _ rfl rfl).froz 1 _ rfl
          have yf2 := ((HB2.out.lay).blk 5 (w.heap.size + 1 + 1 + 1 + 1 + 1) _ rfl rfl).froz 2 _ rfl
          have yf3 := ((HB2.out.lay).blk 5 (w.heap.size + 1 + 1 + 1 + 1 + 1) _ rfl rfl).froz 3 _ rfl
          have HS : Hid (_) := hs
          have HH : Hid (_) := hh
          clear hn hs hh
          go_wp2_with fail
          go_roundg (4 - (3 + 1) + 1)
          case measure => omega
          case rel => exact ⟨4, rfl, by omega, by omega, HB2.out.store (by omega) HS.out HH.out⟩
        · rw [hn]
          have HS : Hid (_) := hs
          have HH : Hid (_) := hh
          clear hn hs hh
          go_wp2_with fail
          go_roundg (4 - (3 + 1) + 1)
          case measure => omega
          case rel => exact ⟨4, rfl, by omega, by omega, HB2.out.same HS.out HH.out⟩
    · obtain rfl : j = 4 := by omega
      have ul := ((HB.out.lay).blk 2 (w.heap.size + 1 + 1) _ rfl rfl).lt
      have u0 := ((HB.out.lay).blk 2 (w.heap.size + 1 + 1) _ rfl rfl).cell 0 _ rfl
      have u1 := ((HB.out.lay).blk 2 (w.heap.size + 1 + 1) _ rfl rfl).cell 1 _ rfl
      have u2 := ((HB.out.lay).blk 2 (w.heap.size + 1 + 1) _ rfl rfl).cell 2 _ rfl
      have u3 := ((HB.out.lay).blk 2 (w.heap.size + 1 + 1) _ rfl rfl).cell 3 _ rfl
      have uf0 := ((HB.out.lay).blk 2 (w.heap.size + 1 + 1) _ rfl rfl).froz 0 _ rfl
      have uf1 := ((HB.out.lay).blk 2 (w.heap.size + 1 + 1) _ rfl rfl).froz 1 _ rfl
      have uf2 := ((HB.out.lay).blk 2 (w.heap.size + 1 + 1) _ rfl rfl).froz 2 _ rfl
      have uf3 := ((HB.out.lay).blk 2 (w.heap.size + 1 + 1) _ rfl rfl).froz 3 _ rfl
      have vl := ((HB.out.lay).blk 3 (w.heap.size + 1 + 1 + 1) _ rfl rfl).lt
      have v0 := ((HB.out.lay).blk 3 (w.heap.size + 1 + 1 + 1) _ rfl rfl).cell 0 _ rfl
      have v1 := ((HB.out.lay).blk 3 (w.heap.size + 1 + 1 + 1) _ rfl rfl).cell 1 _ rfl
      have v2 := ((HB.out.lay).blk 3 (w.heap.size + 1 + 1 + 1) _ rfl rfl).cell 2 _ rfl
      have v3 := ((HB.out.lay).blk 3 (w.heap.size + 1 + 1 + 1) _ rfl rfl).cell 3 _ rfl
      have vf0 := ((HB.out.lay).blk 3 (w.heap.size + 1 + 1 + 1) _ rfl rfl).froz 0 _ rfl
      have vf1 := ((HB.out.lay).blk 3 (w.heap.size + 1 + 1 + 1) _ rfl rfl).froz 1 _ rfl
      have vf2 := ((HB.out.lay).blk 3 (w.heap.size + 1 + 1 + 1) _ rfl rfl).froz 2 _ rfl
      have vf3 := ((HB.out.lay).blk 3 (w.heap.size + 1 + 1 + 1) _ rfl rfl).froz 3 _ rfl
      have xl := ((HB.out.lay).blk 4 (w.heap.size + 1 + 1 + 1 + 1) _ rfl rfl).lt
      have x0 := ((HB.out.lay).blk 4 (w.heap.size + 1 + 1 + 1 + 1) _ rfl rfl).cell 0 _ rfl
      have x1 := ((HB.out.lay).blk 4 (w.heap.size + 1 + 1 + 1 + 1) _ rfl rfl).cell 1 _ rfl
      have x2 := ((HB.out.lay).blk 4 (w.heap.size + 1 + 1 + 1 + 1) _ rfl rfl).cell 2 _ rfl
      have x3 := ((HB.out.lay).blk 4 (w.heap.size + 1 + 1 + 1 + 1) _ rfl rfl).cell 3 _ rfl
      have yl := ((HB.out.lay).blk 5 (w.heap.size + 1 + 1 + 1 + 1 + 1) _ rfl rfl).lt
      have y0 := ((HB.out.lay).blk 5 (w.heap.size + 1 + 1 + 1 + 1 + 1) _ rfl rfl).cell 0 _ rfl
      have y1 := ((HB.out.lay).blk 5 (w.heap.size + 1 + 1 + 1 + 1 + 1) _ rfl rfl).cell 1 _ rfl
      have y2 := ((HB.out.lay).blk 5 (w.heap.size + 1 + 1 + 1 + 1 + 1) _ rfl rfl).cell 2 _ rfl
      have y3 := ((HB.out.lay).blk 5 (w.heap.size + 1 + 1 + 1 + 1 + 1) _ rfl rfl).cell 3 _ rfl
      go_wp2_with fail
      go_region
      all_goals (try go_wp2_with fail)
      obtain ⟨w3, hw3, B2⟩ := HB.out.lay.put4 2 (w.heap.size + 1 + 1) (.int .i32 (upI 4 0 (S 0))) (.int .i32 (upI 4 1 (S 1))) (.int .i32 (upI 4 2 (S 2))) (.int .i32 (upI 4 3 (S 3))) rfl rfl
      rw [hw3]
      obtain ⟨w4, hw4, B3⟩ := B2.put4 3 (w.heap.size + 1 + 1 + 1) (.bool (upB 4 0 (H 0))) (.bool (upB 4 1 (H 1))) (.bool (upB 4 2 (H 2))) (.bool (upB 4 3 (H 3))) rfl rfl
      rw [hw4]
      have B4 := B3.drew
      generalize w4.drew = w6 at *
      have fl := (B4.blk 2 (w.heap.size + 1 + 1) _ rfl rfl).lt
      have f0 := (B4.blk 2 (w.heap.size + 1 + 1) _ rfl rfl).cell 0 _ rfl
      have f1 := (B4.blk 2 (w.heap.size + 1 + 1) _ rfl rfl).cell 1 _ rfl
      have f2 := (B4.blk 2 (w.heap.size + 1 + 1) _ rfl rfl).cell 2 _ rfl
      have f3 := (B4.blk 2 (w.heap.size + 1 + 1) _ rfl rfl).cell 3 _ rfl
      have gl := (B4.blk 3 (w.heap.size + 1 + 1 + 1) _ rfl rfl).lt
      have g0 := (B4.blk 3 (w.heap.size + 1 + 1 + 1) _ rfl rfl).cell 0 _ rfl
      have g1 := (B4.blk 3 (w.heap.size + 1 + 1 + 1) _ rfl rfl).cell 1 _ rfl
      have g2 := (B4.blk 3 (w.heap.size + 1 + 1 + 1) _ rfl rfl).cell 2 _ rfl
      have g3 := (B4.blk 3 (w.heap.size + 1 + 1 + 1) _ rfl rfl).cell 3 _ rfl
      refine bodyPost_ret (by simp [results, Try.results8, go_sem, f0, f1, f2, f3, g0, g1, g2, g3]; try rfl) rfl ?_
      exact ⟨rfl, B4.bel⟩

theorem rsupply_any (a b : Bool) (p q : Int) (w : World) : Calls Try.prog 8 #[.agg #[.bool a, .bool b], .agg #[.int .i32 p, .int .i32 q]] w fun e w' => e = .returned (.tuple #[.agg #[.int .i32 (supI a b p q 0), .int .i32 (supI a b p q 1), .int .i32 (supI a b p q 2), .int .i32 (supI a b p q 3)], .agg #[.bool (srcB a b 0), .bool (srcB a b 1), .bool (srcB a b 2), .bool (srcB a b 3)]]) ∧ Below w.heap.size w w' :=
  rsupply_core a b p q (srcR a b) (supI a b p q) (srcB a b) w (fun j hj => olr_any a b p q hj) (fun W => rsource_0 a b W) (fun W => rsource_1 a b W) (fun W => rsource_2 a b W) (fun W => rsource_3 a b W)

end Go.Proofs.Ytebfjlgmljfnlaa
