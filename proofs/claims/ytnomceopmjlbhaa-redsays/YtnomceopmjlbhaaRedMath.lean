/-
  What comes of a plan, as plain mathematics: which lane is active, bypassed, damped, how long; and the document's Plan, Rest and Reset as plain data.
-/
import Derived.Test.YtnomceopmjlbhaaRedAll
namespace Go.Proofs.Ytnomceopmjlbhaa
open Go.RowKit
set_option linter.unusedVariables false

theorem skS_f (t : Nat → St) (o f : Nat → Bool) (j : Nat) : (skS t o f j).f = ((t j).f || f j) := by
  have h1 : (skA t f j).f = ((t j).f || f j) := by
    unfold skA
    cases f j
    · rw [if_neg (by decide)]; simp
    · rw [if_pos rfl]; simp [nx, nB]
  unfold skS
  split
  · exact h1
  · exact h1
theorem skS_o {t : Nat → St} {o f : Nat → Bool} {j : Nat} (h : o j = false) : ¬ (skS t o f j).m = 1 := by
  unfold skS
  rw [if_neg (by rw [h]; decide)]
  show ¬ nM (skA t f j).m (skA t f j).f 4 = 1
  unfold nM
  by_cases e : (skA t f j).m = 1
  · simp [e]
  · simp [e]
theorem nx_f {s : St} {e : Int} (h3 : e ≠ 3) (h7 : e ≠ 7) : (nx s e).f = s.f := by
  show nB s.f e = s.f
  unfold nB
  rw [if_neg h3, if_neg h7]
theorem plC_f (s : St) : (plC s).f = s.f := by
  unfold plC
  split
  · exact nx_f (by decide) (by decide)
  · rfl
theorem evA_37 (q : Nat) : evA q ≠ 3 ∧ evA q ≠ 7 := by
  unfold evA
  split <;> decide
theorem plB_f (s : Nat → St) (u : Nat → Bool) (j : Nat) : (plB s u j).f = (s j).f := by
  unfold plB
  split
  · exact nx_f (by decide) (by decide)
  · unfold plA
    split
    · rw [nx_f (evA_37 _).1 (evA_37 _).2]
      exact plC_f _
    · exact plC_f _
theorem plY_f (t b : Nat → St) (j : Nat) : (plY t b j).f = (b j).f := by
  unfold plY
  split <;> rfl
theorem plY_m (t b : Nat → St) (j : Nat) : (plY t b j).m = (b j).m := by
  unfold plY
  split <;> rfl
theorem plS_f (t : Nat → St) (o f : Nat → Bool) (j : Nat) : (plS t o f j).f = ((t j).f || f j) := by
  unfold plS
  rw [plY_f, plB_f, skS_f]
/-- which lanes may be used, told from what is behind a plan -/
theorem usB_plS (t : Nat → St) (o f : Nat → Bool) : usB (plS t o f) o = usB (skS t o f) o := by
  funext j
  unfold usB
  rw [plS_f, skS_f]
theorem usB_sk (t : Nat → St) (o f : Nat → Bool) (j : Nat) : usB (skS t o f) o j = (!((t j).f || f j) && o j) := by
  unfold usB
  rw [skS_f]
/-- the mode of a lane behind a plan -/
def plM (t : Nat → St) (o f : Nat → Bool) (j : Nat) : Int := if plN t o f = 0 then 3 else if ((t j).f || f j) = true then 2 else if o j = true ∧ usN (usB (skS t o f) o) j < 2 then 1 else 0
theorem plC_m {s : St} (h : sE s = 0) : (s.f = true ∧ (plC s).m = 2) ∨ (s.f = false ∧ ((plC s).m = 0 ∨ ((plC s).m = 1 ∧ s.m = 1))) := by
  obtain ⟨⟨h1, h2⟩, _, h3⟩ := lE_ok h
  have hm := modes4 h1 h2
  cases hf : s.f
  · refine Or.inr ⟨rfl, ?_⟩
    rcases hm with e | e | e | e
    · left
      unfold plC
      rw [if_neg (by omega), e]
    · right
      unfold plC
      rw [if_neg (by omega)]
      exact ⟨e, e⟩
    · exact absurd (Or.inr ⟨hf, e⟩) h3
    · left
      unfold plC
      rw [if_pos e]
      show nM s.m s.f 6 = 0
      rw [e, hf]
      decide
  · refine Or.inl ⟨rfl, ?_⟩
    rcases hm with e | e | e | e
    · exact absurd (Or.inl ⟨hf, by omega⟩) h3
    · exact absurd (Or.inl ⟨hf, by omega⟩) h3
    · unfold plC
      rw [if_neg (by omega), e]
    · unfold plC
      rw [if_pos e]
      show nM s.m s.f 6 = 2
      rw [e, hf]
      decide
theorem plS_m {t : Nat → St} (ht : Okt t) (o f : Nat → Bool) {j : Nat} (hj : j < 4) : (plS t o f j).m = plM t o f j := by
  unfold plS
  rw [plY_m]
  unfold plM plB
  by_cases hn : plN t o f = 0
  · rw [if_pos hn, if_pos (show usN (usB (skS t o f) o) 4 = 0 from hn)]
    show nM (skS t o f j).m (skS t o f j).f 5 = 3
    unfold nM
    simp
  · rw [if_neg hn, if_neg (show ¬ usN (usB (skS t o f) o) 4 = 0 from hn)]
    have hs := skS_ok ht o f j hj
    have hsf := skS_f t o f j
    rcases plC_m hs with ⟨e1, e2⟩ | ⟨e1, e2⟩
    · rw [hsf] at e1
      have hu : ¬ usB (skS t o f) o j = true := by
        rw [usB_sk, e1]
        simp
      rw [if_pos e1, show plA (skS t o f) (usB (skS t o f) o) (usN (usB (skS t o f) o) 4) j = plC (skS t o f j) from if_neg (fun z => hu z.1)]
      exact e2
    · rw [hsf] at e1
      rw [if_neg (by rw [e1]; decide)]
      by_cases ho : o j = true
      · have hu : usB (skS t o f) o j = true := by
          rw [usB_sk, e1, ho]
          rfl
        rw [show plA (skS t o f) (usB (skS t o f) o) (usN (usB (skS t o f) o) 4) j = nx (plC (skS t o f j)) (evA (usN (usB (skS t o f) o) j)) from if_pos ⟨hu, us_lt hu hj⟩]
        show nM (plC (skS t o f j)).m (plC (skS t o f j)).f (evA (usN (usB (skS t o f) o) j)) = _
        by_cases hc : usN (usB (skS t o f) o) j < 2
        · rw [if_pos ⟨ho, hc⟩, show evA (usN (usB (skS t o f) o) j) = 1 from if_pos hc]
          rcases e2 with e2 | ⟨e2, _⟩ <;> rw [e2] <;> simp [nM]
        · rw [if_neg (fun z => hc z.2), show evA (usN (usB (skS t o f) o) j) = 2 from if_neg hc]
          rcases e2 with e2 | ⟨e2, _⟩ <;> rw [e2] <;> simp [nM]
      · have ho' : o j = false := by simpa using ho
        have hu : ¬ usB (skS t o f) o j = true := by
          rw [usB_sk, e1, ho']
          decide
        rw [show plA (skS t o f) (usB (skS t o f) o) (usN (usB (skS t o f) o) 4) j = plC (skS t o f j) from if_neg (fun z => hu z.1), if_neg (fun z => ho z.1)]
        rcases e2 with e2 | ⟨_, e2⟩
        · exact e2
        · exact absurd e2 (skS_o ho')

/-- what is in another mode than it was has been so for no frame -/
def Inv (t s : St) : Prop := s.m ≠ t.m → s.n = 0
theorem inv_refl (t : St) : Inv t t := fun h => absurd rfl h
theorem inv_nx {t s : St} (h : Inv t s) (e : Int) : Inv t (nx s e) := fun hm => by
  show nF s.m (nM s.m s.f e) s.n = 0
  unfold nF
  split
  · rename_i q
    refine h fun z => hm ?_
    show nM s.m s.f e = t.m
    rw [q, z]
  · rfl
theorem plB_inv (t : Nat → St) (o f : Nat → Bool) (u : Nat → Bool) (j : Nat) : Inv (t j) (plB (skS t o f) u j) := by
  have hA : Inv (t j) (skA t f j) := by
    unfold skA
    split
    · exact inv_nx (inv_refl _) _
    · exact inv_refl _
  have hS : Inv (t j) (skS t o f j) := by
    unfold skS
    split
    · exact hA
    · exact inv_nx hA _
  have hC : Inv (t j) (plC (skS t o f j)) := by
    unfold plC
    split
    · exact inv_nx hS _
    · exact hS
  unfold plB
  split
  · exact inv_nx hS _
  · unfold plA
    split
    · exact inv_nx hC _
    · exact hC
theorem plS_n (t : Nat → St) (o f : Nat → Bool) (j : Nat) : (plS t o f j).n = if (plS t o f j).m = (t j).m then tkI (t j).n else 0 := by
  unfold plS
  rw [plY_m]
  unfold plY
  split
  · rfl
  · rename_i h
    exact plB_inv t o f _ j h
theorem tkI_bd {n : Int} (h1 : 0 ≤ n) (h2 : n ≤ 10000) : 0 ≤ tkI n ∧ tkI n ≤ 10000 := by
  unfold tkI
  split <;> omega
/-- what comes of a right team is right -/
theorem plS_ok {t : Nat → St} (ht : Okt t) (o f : Nat → Bool) : Okt (plS t o f) := fun j hj => by
  have hb := plB_ok (skS_ok ht o f) (usB (skS t o f) o) j hj
  obtain ⟨h1, h2, h3⟩ := lE_ok hb
  obtain ⟨n1, n2⟩ := okt_n ht j hj
  have := tkI_bd n1 n2
  refine lE_of ?_ ?_ ?_
  · show 0 ≤ (plY _ _ _).m ∧ (plY _ _ _).m ≤ 3
    rw [plY_m]
    exact h1
  · rw [plS_n]
    split
    · exact this
    · omega
  · show ¬ (((plY _ _ _).f = true ∧ (plY _ _ _).m < 2) ∨ ((plY _ _ _).f = false ∧ (plY _ _ _).m = 2))
    rw [plY_m, plY_f]
    exact h3
/-- how many are active: two, or as many as there are -/
theorem plS_active {t : Nat → St} (ht : Okt t) (o f : Nat → Bool) : acN (plS t o f) 4 = if plN t o f = 0 then 0 else if plN t o f < 2 then plN t o f else 2 := by
  by_cases hn : plN t o f = 0
  · rw [if_pos hn]
    have k : ∀ j, j < 4 → ¬ (plS t o f j).m = 1 := fun j hj => by
      rw [plS_m ht o f hj]
      unfold plM
      rw [if_pos hn]
      decide
    show acN _ 3 + _ = 0
    rw [if_neg (k 3 (by omega)), acN_no (k 2 (by omega)), acN_no (k 1 (by omega)), acN_no (k 0 (by omega))]
    rfl
  · rw [if_neg hn]
    have key : ∀ k, k ≤ 4 → acN (plS t o f) k = if usN (usB (skS t o f) o) k < 2 then usN (usB (skS t o f) o) k else 2 := by
      intro k hk
      induction k with
      | zero => rfl
      | succ k ih =>
        have := ih (by omega)
        have hm := plS_m ht o f (j := k) (by omega)
        unfold plM at hm
        rw [if_neg hn] at hm
        rcases boolTwo (usB (skS t o f) o k) with hu | hu
        · rw [usN_no hu]
          rw [acN_no, this]
          rw [hm]
          rw [usB_sk] at hu
          split
          · decide
          · rename_i q
            have q' : ((t k).f || f k) = false := by simpa using q
            rw [q'] at hu
            have ho : ¬ o k = true := by
              intro z
              rw [z] at hu
              exact absurd hu (by decide)
            rw [if_neg (fun z => ho z.1)]
            decide
        · rw [usN_yes hu]
          rw [usB_sk] at hu
          simp only [Bool.and_eq_true, Bool.not_eq_true'] at hu
          rw [if_neg (by rw [hu.1]; decide)] at hm
          by_cases hc : usN (usB (skS t o f) o) k < 2
          · rw [if_pos ⟨hu.2, hc⟩] at hm
            rw [acN_yes hm, this, if_pos hc]
            split <;> omega
          · rw [if_neg (fun z => hc z.2)] at hm
            rw [acN_no (by rw [hm]; decide), this, if_neg hc, if_neg (by omega)]
    exact key 4 (Nat.le_refl _)

/-- the document's Plan -/
theorem dplan_any (t : Nat → St) (o f : Nat → Bool) (w : World) (h : teE t = 0) :
    Calls Try.prog 15 #[.agg #[.int .i64 (t 0).m, .bool (t 0).f, .int .i64 (t 0).n, .int .i64 (t 1).m, .bool (t 1).f, .int .i64 (t 1).n, .int .i64 (t 2).m, .bool (t 2).f, .int .i64 (t 2).n, .int .i64 (t 3).m, .bool (t 3).f, .int .i64 (t 3).n], .agg #[.bool (o 0), .bool (o 1), .bool (o 2), .bool (o 3)], .agg #[.bool (f 0), .bool (f 1), .bool (f 2), .bool (f 3)]] w fun r w' => r = .returned (.tuple #[.agg #[.int .i64 ((plS t o f) 0).m, .bool ((plS t o f) 0).f, .int .i64 ((plS t o f) 0).n, .int .i64 ((plS t o f) 1).m, .bool ((plS t o f) 1).f, .int .i64 ((plS t o f) 1).n, .int .i64 ((plS t o f) 2).m, .bool ((plS t o f) 2).f, .int .i64 ((plS t o f) 2).n, .int .i64 ((plS t o f) 3).m, .bool ((plS t o f) 3).f, .int .i64 ((plS t o f) 3).n], .agg #[.int .i64 (plN t o f), .int .i64 (acN (plS t o f) 4), .bool (((plN t o f : Nat) : Int) == 0)]]) ∧ Below w.heap.size w w' := by
  have ht := okt_of h
  have hn4 : plN t o f ≤ 4 := usL_le _ 4
  obtain ⟨A, hA⟩ : ∃ A : Nat → Nat → St, A = fun q => if plN t o f = 0 then fun j => nx (skS t o f j) 5 else plA (skS t o f) (usB (skS t o f) o) q := ⟨_, rfl⟩
  have hAn : A (plN t o f) = plB (skS t o f) (usB (skS t o f) o) := by
    rw [hA]
    funext j
    unfold plB
    by_cases e : plN t o f = 0
    · rw [if_pos (show usN (usB (skS t o f) o) 4 = 0 from e)]
      simp only [if_pos e]
    · rw [if_neg (show ¬ usN (usB (skS t o f) o) 4 = 0 from e)]
      simp only [if_neg e]
      rfl
  refine dplan_core t (skA t f) (skS t o f) (plS t o f) A o f (usA (usB (skS t o f) o)) (plN t o f) _ w hn4 rfl (fun j hj => ?_) (fun j hj => ?_) (fun W => ?_) (fun j hj => ?_) (fun q hq => ?_) (okt_n ht) (fun j hj => ?_)
  · rcases boolTwo (f j) with e | e
    · exact Or.inr ⟨e, by unfold skA; rw [if_neg (by rw [e]; decide)]⟩
    · refine Or.inl ⟨e, ?_⟩
      have : skA t f j = nx (t j) 3 := by unfold skA; rw [if_pos e]
      rw [this]
      exact dnext_nx _ _ (by omega) (by omega)
  · rcases boolTwo (o j) with e | e
    · refine Or.inl ⟨e, ?_⟩
      have : skS t o f j = nx (skA t f j) 4 := by unfold skS; rw [if_neg (by rw [e]; decide)]
      rw [this]
      exact dnext_nx _ _ (by omega) (by omega)
    · exact Or.inr ⟨e, by unfold skS; rw [if_pos e]⟩
  · exact (dusable_any (skS t o f) o W).mono fun e w' hr => hr
  · unfold Evs
    by_cases e : plN t o f = 0
    · refine Or.inl ⟨e, ?_⟩
      have : A 0 j = nx (skS t o f j) 5 := by rw [hA]; simp only [if_pos e]
      rw [this]
      exact dnext_nx _ _ (by omega) (by omega)
    · have e0 : (((plN t o f : Nat) : Int) == 0) = false := by simp; omega
      have hA0 : A 0 j = plC (skS t o f j) := by rw [hA]; simp only [if_neg e]; rw [plA_zero]
      rw [hA0]
      by_cases em : (skS t o f j).m = 3
      · refine Or.inr (Or.inl ⟨e0, by simpa using em, ?_⟩)
        have : plC (skS t o f j) = nx (skS t o f j) 6 := if_pos em
        rw [this]
        exact dnext_nx _ _ (by omega) (by omega)
      · exact Or.inr (Or.inr ⟨e0, by simpa using em, if_neg em⟩)
  · have e : ¬ plN t o f = 0 := by omega
    have hAq : ∀ q, A q = plA (skS t o f) (usB (skS t o f) o) q := fun q => by rw [hA]; simp only [if_neg e]
    obtain ⟨h1, h2, h3⟩ := plA_step (skS t o f) (usB (skS t o f) o) q hq
    rw [hAq q, hAq (q + 1)]
    refine ⟨(usA_at _ hq).1, h1, ?_⟩
    rw [h2, h3]
    exact dnext_nx _ _ (evA_bd _).1 (evA_bd _).2
  · rw [hAn]
    unfold plS plY
    by_cases e : (plB (skS t o f) (usB (skS t o f) o) j).m = (t j).m
    · exact Or.inl ⟨by simpa using e, by rw [if_pos e]⟩
    · refine Or.inr ⟨by simpa using e, ?_⟩
      rw [if_neg e]
      have := plB_inv t o f (usB (skS t o f) o) j e
      generalize plB (skS t o f) (usB (skS t o f) o) j = b at *
      obtain ⟨m, f, n⟩ := b
      simp only at this
      rw [this]

theorem rcheck_is (t : Nat → St) (E : Int) (h : teE t = E) : ∀ W, Calls Try.prog 11 #[.agg #[.int .i64 (t 0).m, .bool (t 0).f, .int .i64 (t 0).n, .int .i64 (t 1).m, .bool (t 1).f, .int .i64 (t 1).n, .int .i64 (t 2).m, .bool (t 2).f, .int .i64 (t 2).n, .int .i64 (t 3).m, .bool (t 3).f, .int .i64 (t 3).n]] W fun r w' => r = .returned (.int .i64 E) ∧ Below W.heap.size W w' := fun W => by
  have := rcheck_any t W
  rw [h] at this
  exact this
theorem rrest_any (t : Nat → St) (w : World) (h : teE t = 0) : Calls Try.prog 10 #[.agg #[.int .i64 (t 0).m, .bool (t 0).f, .int .i64 (t 0).n, .int .i64 (t 1).m, .bool (t 1).f, .int .i64 (t 1).n, .int .i64 (t 2).m, .bool (t 2).f, .int .i64 (t 2).n, .int .i64 (t 3).m, .bool (t 3).f, .int .i64 (t 3).n]] w fun r w' => r = .returned (.tuple #[.agg #[.int .i64 ((fun j => nx (t j) 2) 0).m, .bool ((fun j => nx (t j) 2) 0).f, .int .i64 ((fun j => nx (t j) 2) 0).n, .int .i64 ((fun j => nx (t j) 2) 1).m, .bool ((fun j => nx (t j) 2) 1).f, .int .i64 ((fun j => nx (t j) 2) 1).n, .int .i64 ((fun j => nx (t j) 2) 2).m, .bool ((fun j => nx (t j) 2) 2).f, .int .i64 ((fun j => nx (t j) 2) 2).n, .int .i64 ((fun j => nx (t j) 2) 3).m, .bool ((fun j => nx (t j) 2) 3).f, .int .i64 ((fun j => nx (t j) 2) 3).n], .int .i64 0]) ∧ Below w.heap.size w w' :=
  rrest_ok t (fun j => nx (t j) 2) w (rcheck_is t 0 h) fun W => rall_core t _ 2 W fun j hj => rafter_nx _ _ (okt_of h j hj) (by omega) (by omega)
theorem rreset_any (t : Nat → St) (j : Nat) (hj : j < 4) (w : World) (h : teE t = 0) : Calls Try.prog 9 #[.agg #[.int .i64 (t 0).m, .bool (t 0).f, .int .i64 (t 0).n, .int .i64 (t 1).m, .bool (t 1).f, .int .i64 (t 1).n, .int .i64 (t 2).m, .bool (t 2).f, .int .i64 (t 2).n, .int .i64 (t 3).m, .bool (t 3).f, .int .i64 (t 3).n], .int .i64 j, .bool true] w fun r w' => r = .returned (.tuple #[.agg #[.int .i64 ((putS t j (nx (t j) 7)) 0).m, .bool ((putS t j (nx (t j) 7)) 0).f, .int .i64 ((putS t j (nx (t j) 7)) 0).n, .int .i64 ((putS t j (nx (t j) 7)) 1).m, .bool ((putS t j (nx (t j) 7)) 1).f, .int .i64 ((putS t j (nx (t j) 7)) 1).n, .int .i64 ((putS t j (nx (t j) 7)) 2).m, .bool ((putS t j (nx (t j) 7)) 2).f, .int .i64 ((putS t j (nx (t j) 7)) 2).n, .int .i64 ((putS t j (nx (t j) 7)) 3).m, .bool ((putS t j (nx (t j) 7)) 3).f, .int .i64 ((putS t j (nx (t j) 7)) 3).n], .int .i64 0]) ∧ Below w.heap.size w w' :=
  rreset_ok t (nx (t j) 7) j hj w (rcheck_is t 0 h) (rafter_nx _ _ (okt_of h j hj) (by omega) (by omega))

end Go.Proofs.Ytnomceopmjlbhaa
