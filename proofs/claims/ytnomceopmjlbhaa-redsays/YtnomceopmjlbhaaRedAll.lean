/-
  Package red whole: what Plan, Reset, Rest and Usable answer, as plain data; the same of the document's. Which lanes are active, bypassed, damped.
-/
import Derived.Test.YtnomceopmjlbhaaRedRes
import Derived.Test.YtnomceopmjlbhaaRRedPln
import Derived.Test.YtnomceopmjlbhaaRLan
namespace Go.Proofs.Ytnomceopmjlbhaa
open Go.RowKit
set_option linter.unusedVariables false

/-- a fault; no oil; behind both -/
def skA (t : Nat → St) (f : Nat → Bool) (j : Nat) : St := if f j = true then nx (t j) 3 else t j
def skS (t : Nat → St) (o f : Nat → Bool) (j : Nat) : St := if o j = true then skA t f j else nx (skA t f j) 4
/-- which lanes may be used -/
def usB (t : Nat → St) (o : Nat → Bool) (j : Nat) : Bool := !(t j).f && o j
/-- nothing may be used: all damped; else what is damped free, and those that may be used by their rank -/
def plC (s : St) : St := if s.m = 3 then nx s 6 else s
def plA (s : Nat → St) (u : Nat → Bool) (q j : Nat) : St := if u j = true ∧ usN u j < q then nx (plC (s j)) (evA (usN u j)) else plC (s j)
def plB (s : Nat → St) (u : Nat → Bool) (j : Nat) : St := if usN u 4 = 0 then nx (s j) 5 else plA s u (usN u 4) j
/-- how long each lane has been in its mode -/
def plY (t b : Nat → St) (j : Nat) : St := if (b j).m = (t j).m then ⟨(b j).m, (b j).f, tkI (t j).n⟩ else b j

/-- each lane is right -/
def Okt (t : Nat → St) : Prop := ∀ j, j < 4 → sE (t j) = 0
theorem okt_of {t : Nat → St} (h : teE t = 0) : Okt t := fun j hj => by
  rcases lE_cases (t j).m (t j).f (t j).n with e | e | e
  all_goals first | exact e | skip
  all_goals
    exfalso
    have e' : ¬ sE (t j) = 0 := by unfold sE; omega
    clear e
    -- the first that is wrong
    have : ∃ k, k < 4 ∧ ¬ sE (t k) = 0 ∧ ∀ i, i < k → sE (t i) = 0 := by
      by_cases h0 : sE (t 0) = 0
      · by_cases h1 : sE (t 1) = 0
        · by_cases h2 : sE (t 2) = 0
          · refine ⟨3, by omega, ?_, fun i hi => ?_⟩
            · intro h3
              obtain rfl | rfl | rfl | rfl := cases4 hj <;> contradiction
            · have : i = 0 ∨ i = 1 ∨ i = 2 := by omega
              rcases this with rfl | rfl | rfl <;> assumption
          · exact ⟨2, by omega, h2, fun i hi => by
              have : i = 0 ∨ i = 1 := by omega
              rcases this with rfl | rfl <;> assumption⟩
        · exact ⟨1, by omega, h1, fun i hi => by
            obtain rfl : i = 0 := by omega
            exact h0⟩
      · exact ⟨0, by omega, h0, fun i hi => absurd hi (by omega)⟩
    obtain ⟨k, hk, h1, h2⟩ := this
    exact h1 ((frE_at (E := fun j => sE (t j)) hk h2 h1).symm.trans h)
theorem teE_of {t : Nat → St} (h : Okt t) : teE t = 0 := frE_none h
theorem teE_cases (t : Nat → St) : teE t = 1 ∨ teE t = 4 ∨ teE t = 0 := by
  unfold teE frE
  have k : ∀ j, sE (t j) = 1 ∨ sE (t j) = 4 ∨ sE (t j) = 0 := fun j => lE_cases _ _ _
  split
  · exact k 0
  · split
    · exact k 1
    · split
      · exact k 2
      · exact k 3
theorem skA_ok {t : Nat → St} (h : Okt t) (f : Nat → Bool) : Okt (skA t f) := fun j hj => by
  unfold skA
  split
  · exact sE_next (h j hj) (by omega) (by omega)
  · exact h j hj
theorem skS_ok {t : Nat → St} (h : Okt t) (o f : Nat → Bool) : Okt (skS t o f) := fun j hj => by
  unfold skS
  split
  · exact skA_ok h f j hj
  · exact sE_next (skA_ok h f j hj) (by omega) (by omega)
theorem plC_ok {s : St} (h : sE s = 0) : sE (plC s) = 0 := by
  unfold plC
  split
  · exact sE_next h (by omega) (by omega)
  · exact h
theorem evA_bd (q : Nat) : 1 ≤ evA q ∧ evA q ≤ 7 := by
  unfold evA
  split <;> omega
theorem plA_ok {s : Nat → St} (h : Okt s) (u : Nat → Bool) (q : Nat) : Okt (plA s u q) := fun j hj => by
  unfold plA
  split
  · exact sE_next (plC_ok (h j hj)) (evA_bd _).1 (evA_bd _).2
  · exact plC_ok (h j hj)
theorem plB_ok {s : Nat → St} (h : Okt s) (u : Nat → Bool) : Okt (plB s u) := fun j hj => by
  unfold plB
  split
  · exact sE_next (h j hj) (by omega) (by omega)
  · exact plA_ok h u _ j hj
theorem okt_n {t : Nat → St} (h : Okt t) : ∀ j, j < 4 → 0 ≤ (t j).n ∧ (t j).n ≤ 10000 := fun j hj => (lE_ok (h j hj)).2.1

/-- while lane after lane gets its event -/
theorem plA_step (s : Nat → St) (u : Nat → Bool) (q : Nat) (hq : q < usN u 4) :
    plA s u (q + 1) = putS (plA s u q) (usA u q) (plA s u (q + 1) (usA u q)) ∧ plA s u q (usA u q) = plC (s (usA u q)) ∧ plA s u (q + 1) (usA u q) = nx (plC (s (usA u q))) (evA q) := by
  obtain ⟨h1, h2, h3⟩ := usA_at u hq
  refine ⟨?_, ?_, ?_⟩
  · funext i
    unfold putS
    split
    · rename_i e
      rw [e]
    · rename_i e
      unfold plA
      by_cases hu : u i = true
      · by_cases hc : usN u i < q
        · rw [if_pos ⟨hu, by omega⟩, if_pos ⟨hu, hc⟩]
        · have : ¬ usN u i < q + 1 := fun hl => e (us_one hu h2 (by omega))
          rw [if_neg (fun z => this z.2), if_neg (fun z => hc z.2)]
      · rw [if_neg (fun z => hu z.1), if_neg (fun z => hu z.1)]
  · unfold plA
    rw [if_neg (fun z => by omega)]
  · unfold plA
    rw [if_pos ⟨h2, by omega⟩, h3]
theorem plA_zero (s : Nat → St) (u : Nat → Bool) : plA s u 0 = fun j => plC (s j) := by
  funext j
  unfold plA
  rw [if_neg (fun z => Nat.not_lt_zero _ z.2)]

theorem rafter_nx (s : St) (e : Int) (h : sE s = 0) (h1 : 1 ≤ e) (h2 : e ≤ 7) : ∀ W, Calls Try.prog 26 #[.agg #[.int .i64 s.m, .bool s.f, .int .i64 s.n], .int .i64 e] W fun r w' => r = .returned (.agg #[.int .i64 (nx s e).m, .bool (nx s e).f, .int .i64 (nx s e).n]) ∧ Below W.heap.size W w' := fun W => rafter_any s e h h1 h2 W
theorem dnext_nx (s : St) (e : Int) (h1 : 1 ≤ e) (h2 : e ≤ 7) : ∀ W, Calls Try.prog 16 #[.agg #[.int .i64 s.m, .bool s.f, .int .i64 s.n], .int .i64 e] W fun r w' => r = .returned (.agg #[.int .i64 (nx s e).m, .bool (nx s e).f, .int .i64 (nx s e).n]) ∧ Below W.heap.size W w' := fun W => rnext_any s.m s.f s.n e W h1 h2
theorem rusable_any (t : Nat → St) (o : Nat → Bool) (w : World) : Calls Try.prog 13 #[.agg #[.int .i64 (t 0).m, .bool (t 0).f, .int .i64 (t 0).n, .int .i64 (t 1).m, .bool (t 1).f, .int .i64 (t 1).n, .int .i64 (t 2).m, .bool (t 2).f, .int .i64 (t 2).n, .int .i64 (t 3).m, .bool (t 3).f, .int .i64 (t 3).n], .agg #[.bool (o 0), .bool (o 1), .bool (o 2), .bool (o 3)]] w fun e w' => Row w (usB t o) e w' :=
  rusable_core t o (usB t o) w fun j _ => by
    unfold usB
    cases (t j).f
    · exact Or.inr ⟨rfl, rfl⟩
    · exact Or.inl ⟨rfl, rfl⟩
theorem dusable_any (t : Nat → St) (o : Nat → Bool) (w : World) : Calls Try.prog 14 #[.agg #[.int .i64 (t 0).m, .bool (t 0).f, .int .i64 (t 0).n, .int .i64 (t 1).m, .bool (t 1).f, .int .i64 (t 1).n, .int .i64 (t 2).m, .bool (t 2).f, .int .i64 (t 2).n, .int .i64 (t 3).m, .bool (t 3).f, .int .i64 (t 3).n], .agg #[.bool (o 0), .bool (o 1), .bool (o 2), .bool (o 3)]] w fun e w' => Row w (usB t o) e w' :=
  dusable_core t o (usB t o) w fun j _ => by
    unfold usB
    cases (t j).f
    · exact Or.inr ⟨rfl, rfl⟩
    · exact Or.inl ⟨rfl, rfl⟩

/-- what comes of a plan -/
def plS (t : Nat → St) (o f : Nat → Bool) : Nat → St := plY t (plB (skS t o f) (usB (skS t o f) o))
def plN (t : Nat → St) (o f : Nat → Bool) : Nat := usN (usB (skS t o f) o) 4

theorem rplan_any (t : Nat → St) (o f : Nat → Bool) (w : World) (h : teE t = 0) :
    Calls Try.prog 8 #[.agg #[.int .i64 (t 0).m, .bool (t 0).f, .int .i64 (t 0).n, .int .i64 (t 1).m, .bool (t 1).f, .int .i64 (t 1).n, .int .i64 (t 2).m, .bool (t 2).f, .int .i64 (t 2).n, .int .i64 (t 3).m, .bool (t 3).f, .int .i64 (t 3).n], .agg #[.bool (o 0), .bool (o 1), .bool (o 2), .bool (o 3)], .agg #[.bool (f 0), .bool (f 1), .bool (f 2), .bool (f 3)]] w fun r w' => r = .returned (.tuple #[.agg #[.int .i64 ((plS t o f) 0).m, .bool ((plS t o f) 0).f, .int .i64 ((plS t o f) 0).n, .int .i64 ((plS t o f) 1).m, .bool ((plS t o f) 1).f, .int .i64 ((plS t o f) 1).n, .int .i64 ((plS t o f) 2).m, .bool ((plS t o f) 2).f, .int .i64 ((plS t o f) 2).n, .int .i64 ((plS t o f) 3).m, .bool ((plS t o f) 3).f, .int .i64 ((plS t o f) 3).n], .agg #[.int .i64 (plN t o f), .int .i64 (acN (plS t o f) 4), .bool (((plN t o f : Nat) : Int) == 0)], .int .i64 0]) ∧ Below w.heap.size w w' := by
  have ht := okt_of h
  have hs := skS_ok ht o f
  have CK : Hid (∀ W, Calls Try.prog 11 #[.agg #[.int .i64 (t 0).m, .bool (t 0).f, .int .i64 (t 0).n, .int .i64 (t 1).m, .bool (t 1).f, .int .i64 (t 1).n, .int .i64 (t 2).m, .bool (t 2).f, .int .i64 (t 2).n, .int .i64 (t 3).m, .bool (t 3).f, .int .i64 (t 3).n]] W fun r w' => r = .returned (.int .i64 0) ∧ Below W.heap.size W w') := fun W => by
    have := rcheck_any t W
    rw [h] at this
    exact this
  have CS : Hid (∀ W, Calls Try.prog 20 #[.agg #[.int .i64 (t 0).m, .bool (t 0).f, .int .i64 (t 0).n, .int .i64 (t 1).m, .bool (t 1).f, .int .i64 (t 1).n, .int .i64 (t 2).m, .bool (t 2).f, .int .i64 (t 2).n, .int .i64 (t 3).m, .bool (t 3).f, .int .i64 (t 3).n], .agg #[.bool (o 0), .bool (o 1), .bool (o 2), .bool (o 3)], .agg #[.bool (f 0), .bool (f 1), .bool (f 2), .bool (f 3)]] W fun r w' => r = .returned (.agg #[.int .i64 ((skS t o f) 0).m, .bool ((skS t o f) 0).f, .int .i64 ((skS t o f) 0).n, .int .i64 ((skS t o f) 1).m, .bool ((skS t o f) 1).f, .int .i64 ((skS t o f) 1).n, .int .i64 ((skS t o f) 2).m, .bool ((skS t o f) 2).f, .int .i64 ((skS t o f) 2).n, .int .i64 ((skS t o f) 3).m, .bool ((skS t o f) 3).f, .int .i64 ((skS t o f) 3).n]) ∧ Below W.heap.size W w') := fun W =>
    rstruck_core t (skA t f) (skS t o f) o f W (fun j hj => by
      rcases boolTwo (f j) with e | e
      · exact Or.inr ⟨e, by unfold skA; rw [if_neg (by rw [e]; decide)]⟩
      · refine Or.inl ⟨e, ?_⟩
        have : skA t f j = nx (t j) 3 := by unfold skA; rw [if_pos e]
        rw [this]
        exact rafter_nx _ _ (ht j hj) (by omega) (by omega)) (fun j hj => by
      rcases boolTwo (o j) with e | e
      · refine Or.inl ⟨e, ?_⟩
        have : skS t o f j = nx (skA t f j) 4 := by unfold skS; rw [if_neg (by rw [e]; decide)]
        rw [this]
        exact rafter_nx _ _ (skA_ok ht f j hj) (by omega) (by omega)
      · exact Or.inr ⟨e, by unfold skS; rw [if_pos e]⟩)
  have CU : Hid (∀ W, Calls Try.prog 13 #[.agg #[.int .i64 ((skS t o f) 0).m, .bool ((skS t o f) 0).f, .int .i64 ((skS t o f) 0).n, .int .i64 ((skS t o f) 1).m, .bool ((skS t o f) 1).f, .int .i64 ((skS t o f) 1).n, .int .i64 ((skS t o f) 2).m, .bool ((skS t o f) 2).f, .int .i64 ((skS t o f) 2).n, .int .i64 ((skS t o f) 3).m, .bool ((skS t o f) 3).f, .int .i64 ((skS t o f) 3).n], .agg #[.bool (o 0), .bool (o 1), .bool (o 2), .bool (o 3)]] W fun e w' => ∃ a c, e = .returned (.slice a (plN t o f) c) ∧ RI w' a (plN t o f) (usA (usB (skS t o f) o)) ∧ Below W.heap.size W w') := fun W =>
    (rusable_any (skS t o f) o W).mono fun e w' hr => by
      obtain ⟨a, c, h1, h2, h3⟩ := hr
      exact ⟨a, c, h1, h2.ri, h3⟩
  have CA : Hid (∀ W, Calls Try.prog 24 #[.agg #[.int .i64 ((plB (skS t o f) (usB (skS t o f) o)) 0).m, .bool ((plB (skS t o f) (usB (skS t o f) o)) 0).f, .int .i64 ((plB (skS t o f) (usB (skS t o f) o)) 0).n, .int .i64 ((plB (skS t o f) (usB (skS t o f) o)) 1).m, .bool ((plB (skS t o f) (usB (skS t o f) o)) 1).f, .int .i64 ((plB (skS t o f) (usB (skS t o f) o)) 1).n, .int .i64 ((plB (skS t o f) (usB (skS t o f) o)) 2).m, .bool ((plB (skS t o f) (usB (skS t o f) o)) 2).f, .int .i64 ((plB (skS t o f) (usB (skS t o f) o)) 2).n, .int .i64 ((plB (skS t o f) (usB (skS t o f) o)) 3).m, .bool ((plB (skS t o f) (usB (skS t o f) o)) 3).f, .int .i64 ((plB (skS t o f) (usB (skS t o f) o)) 3).n], .agg #[.int .i64 (t 0).m, .bool (t 0).f, .int .i64 (t 0).n, .int .i64 (t 1).m, .bool (t 1).f, .int .i64 (t 1).n, .int .i64 (t 2).m, .bool (t 2).f, .int .i64 (t 2).n, .int .i64 (t 3).m, .bool (t 3).f, .int .i64 (t 3).n]] W fun r w' => r = .returned (.agg #[.int .i64 ((plS t o f) 0).m, .bool ((plS t o f) 0).f, .int .i64 ((plS t o f) 0).n, .int .i64 ((plS t o f) 1).m, .bool ((plS t o f) 1).f, .int .i64 ((plS t o f) 1).n, .int .i64 ((plS t o f) 2).m, .bool ((plS t o f) 2).f, .int .i64 ((plS t o f) 2).n, .int .i64 ((plS t o f) 3).m, .bool ((plS t o f) 3).f, .int .i64 ((plS t o f) 3).n]) ∧ Below W.heap.size W w') := fun W =>
    raged_core _ t _ W (okt_n ht) (fun j hj => by
      unfold plS plY
      by_cases e : (plB (skS t o f) (usB (skS t o f) o) j).m = (t j).m
      · exact Or.inl ⟨by simpa using e, if_pos e⟩
      · exact Or.inr ⟨by simpa using e, if_neg e⟩)
  have CM : Hid (∀ W, Calls Try.prog 25 #[.agg #[.int .i64 ((plS t o f) 0).m, .bool ((plS t o f) 0).f, .int .i64 ((plS t o f) 0).n, .int .i64 ((plS t o f) 1).m, .bool ((plS t o f) 1).f, .int .i64 ((plS t o f) 1).n, .int .i64 ((plS t o f) 2).m, .bool ((plS t o f) 2).f, .int .i64 ((plS t o f) 2).n, .int .i64 ((plS t o f) 3).m, .bool ((plS t o f) 3).f, .int .i64 ((plS t o f) 3).n]] W fun r w' => r = .returned (.int .i64 (acN (plS t o f) 4)) ∧ Below W.heap.size W w') := fun W => rmany_any _ W
  by_cases hn : plN t o f = 0
  · have := rplan_lost t (skS t o f) (plB (skS t o f) (usB (skS t o f) o)) (plS t o f) o f (usA (usB (skS t o f) o)) (plN t o f) (acN (plS t o f) 4) w hn CK CS CU (fun W => rall_core _ _ 5 W (fun j hj => by
      have e : plB (skS t o f) (usB (skS t o f) o) j = nx (skS t o f j) 5 := if_pos hn
      rw [e]
      exact rafter_nx _ _ (hs j hj) (by omega) (by omega))) CA CM
    rw [hn]
    exact this
  · have e1 : (((plN t o f : Nat) : Int) == 0) = false := by simp; omega
    rw [e1]
    have e2 : plB (skS t o f) (usB (skS t o f) o) = plA (skS t o f) (usB (skS t o f) o) (plN t o f) := by
      funext j
      exact if_neg hn
    refine rplan_has t (skS t o f) (fun j => plC (skS t o f j)) (plB (skS t o f) (usB (skS t o f) o)) (plS t o f) o f (usA (usB (skS t o f) o)) (plN t o f) (acN (plS t o f) 4) w (by omega) CK CS CU (fun W => rfreed_core _ _ W (fun j hj => by
      show (((skS t o f j).m == 3) = true ∧ ∀ W, Calls Try.prog 26 #[.agg #[.int .i64 (skS t o f j).m, .bool (skS t o f j).f, .int .i64 (skS t o f j).n], .int .i64 6] W fun r w' => r = .returned (.agg #[.int .i64 (plC (skS t o f j)).m, .bool (plC (skS t o f j)).f, .int .i64 (plC (skS t o f j)).n]) ∧ Below W.heap.size W w') ∨ (((skS t o f j).m == 3) = false ∧ plC (skS t o f j) = skS t o f j)
      by_cases e : (skS t o f j).m = 3
      · refine Or.inl ⟨by simpa using e, ?_⟩
        have : plC (skS t o f j) = nx (skS t o f j) 6 := if_pos e
        rw [this]
        exact rafter_nx _ _ (hs j hj) (by omega) (by omega)
      · exact Or.inr ⟨by simpa using e, if_neg e⟩)) (fun a cap W hr => ?_) CA CM
    rw [e2]
    have := rarmed_core (plA (skS t o f) (usB (skS t o f) o)) a (plN t o f) cap (usA (usB (skS t o f) o)) W (Nat.le_trans (usL_le _ 4) (Nat.le_refl _)) hr (fun q hq => by
      obtain ⟨h1, h2, h3⟩ := plA_step (skS t o f) (usB (skS t o f) o) q hq
      refine ⟨(usA_at _ hq).1, h1, ?_⟩
      rw [h2, h3]
      exact rafter_nx _ _ (plC_ok (hs _ (usA_at _ hq).1)) (evA_bd _).1 (evA_bd _).2)
    rw [plA_zero] at this
    exact this

end Go.Proofs.Ytnomceopmjlbhaa
