/-
  Contracts of lane.Next, lane.Tick, lane.All.
-/
import Derived.Test.YtnomceopmjlbhaaLanAft
import Derived.Test.YtnomceopmjlbhaaLanChg
import Derived.Deep.LoopGhost
namespace Go.Proofs.Ytnomceopmjlbhaa
open Go.RowKit
set_option linter.unusedVariables false

theorem lgrown_of {w w' : World} (h : Below w.heap.size w w') : w.grownBy w' none := ⟨h.os, h.tape, h.output, h.size, fun k hk _ => h.block k hk⟩
theorem Lay.put3 {w : World} {L : List (List Value)} {W : World} (h : Lay w L W) (i b : Nat) {a0 a1 a2 : Value} (v0 v1 v2 : Value) (e : b = w.heap.size + i) (hi : L[i]? = some [a0, a1, a2]) :
    ∃ w3, (((W.setCell ⟨b, 0, none⟩ v0).setCell ⟨b, 1, none⟩ v1).setCell ⟨b, 2, none⟩ v2) = w3 ∧ Lay w (L.set i [v0, v1, v2]) w3 ∧ ∀ (P : Program) (k : TypeId) (R : Value → Option (DataW Unit × List MemPlace)) (B n : Nat) (D : DataW Unit), B ≠ b → W.ownsMap P k R B n D → w3.ownsMap P k R B n D :=
  ⟨_, rfl, ((h.set i b 0 [a0, a1, a2] v0 e hi (by simp)).again (j := 1) v1 e hi (by simp)).again (j := 2) v2 e hi (by simp), fun P k R B n D hB ho => ((ho.setCell hB _).setCell hB _).setCell hB _⟩

theorem events7 {e : Int} (h1 : 1 ≤ e) (h2 : e ≤ 7) : e = 1 ∨ e = 2 ∨ e = 3 ∨ e = 4 ∨ e = 5 ∨ e = 6 ∨ e = 7 := by omega
theorem lE_ok {m : Int} {b : Bool} {n : Int} (h : lE m b n = 0) : (0 ≤ m ∧ m ≤ 3) ∧ (0 ≤ n ∧ n ≤ 10000) ∧ ¬ ((b = true ∧ m < 2) ∨ (b = false ∧ m = 2)) := by
  unfold lE at h
  split at h
  · rename_i g
    split at h
    · cases h
    · rename_i k
      exact ⟨g.1, g.2, k⟩
  · cases h
theorem lE_of {m : Int} {b : Bool} {n : Int} (h1 : 0 ≤ m ∧ m ≤ 3) (h2 : 0 ≤ n ∧ n ≤ 10000) (h3 : ¬ ((b = true ∧ m < 2) ∨ (b = false ∧ m = 2))) : lE m b n = 0 := by
  rw [lE_in b h1 h2, if_neg h3]
theorem lE_cases (m : Int) (b : Bool) (n : Int) : lE m b n = 1 ∨ lE m b n = 4 ∨ lE m b n = 0 := by
  unfold lE
  split
  · split
    · exact Or.inr (Or.inl rfl)
    · exact Or.inr (Or.inr rfl)
  · exact Or.inl rfl
theorem comb_in {m : Int} {b : Bool} {n e : Int} (h : lE m b n = 0) (h1 : 1 ≤ e) (h2 : e ≤ 7) : (m, b, e) ∈ combos := by
  obtain ⟨⟨h3, h4⟩, _, h5⟩ := lE_ok h
  rcases modes4 h3 h4 with rfl | rfl | rfl | rfl <;> cases b
  all_goals first
    | (exfalso; simp at h5; done)
    | (rcases events7 h1 h2 with rfl | rfl | rfl | rfl | rfl | rfl | rfl <;> decide)
/-- what comes of a right state and an event is right -/
theorem lE_next {m : Int} {b : Bool} {n e : Int} (h : lE m b n = 0) (h1 : 1 ≤ e) (h2 : e ≤ 7) : lE (nM m b e) (nB b e) (nF m (nM m b e) n) = 0 := by
  have hc := comb_in h h1 h2
  obtain ⟨_, h4, _⟩ := lE_ok h
  have h5 : combos.all (fun x => decide (0 ≤ nM x.1 x.2.1 x.2.2) && decide (nM x.1 x.2.1 x.2.2 ≤ 3) && !((nB x.2.1 x.2.2 && decide (nM x.1 x.2.1 x.2.2 < 2)) || (!nB x.2.1 x.2.2 && nM x.1 x.2.1 x.2.2 == 2))) = true := by decide +kernel
  have h6 := List.all_eq_true.1 h5 _ hc
  simp only [Bool.and_eq_true, decide_eq_true_eq] at h6
  obtain ⟨⟨a1, a2⟩, a3⟩ := h6
  refine lE_of ⟨a1, a2⟩ (by unfold nF; split <;> omega) fun q => ?_
  rcases q with ⟨q1, q2⟩ | ⟨q1, q2⟩ <;> simp [q1, q2] at a3

set_option maxHeartbeats 4000000 in
theorem next_bad (m : Int) (b : Bool) (n e E : Int) (w : World) (h : lE m b n = E) (hE : E = 1 ∨ E = 4) : Calls Try.prog 28 #[.agg #[.int .i64 m, .bool b, .int .i64 n], .int .i64 e] w fun r w' => r = .returned (.tuple #[.agg #[.int .i64 0, .bool false, .int .i64 0], .int .i64 E]) ∧ Below w.heap.size w w' := by
  obtain ⟨W0, hW0, B0', Z0'⟩ := lay2n w #[.int .i64 m, .bool b, .int .i64 n] #[.int .i64 0, .bool false, .int .i64 0] 23 23
  have HW : Hid (_) := hW0
  have B0 : Hid (_) := B0'
  have CK : Hid (_) := fun W => lcheck_any m b n W
  rw [h] at CK
  clear hW0 B0' Z0' h
  go_enter Try.func28, Try.ntmps28
  go_wp2_with fail
  rw [HW.out]
  clear HW
  refine (CK.out _).mono ?_
  rintro r w1 ⟨rfl, hb⟩
  have B1 : Hid (_) := B0.out.step hb
  clear hb B0 CK
  have kl := (B1.out.blk 1 (w.heap.size + 1) _ rfl rfl).lt
  have k0 := (B1.out.blk 1 (w.heap.size + 1) _ rfl rfl).cell 0 _ rfl
  have k1 := (B1.out.blk 1 (w.heap.size + 1) _ rfl rfl).cell 1 _ rfl
  have k2 := (B1.out.blk 1 (w.heap.size + 1) _ rfl rfl).cell 2 _ rfl
  have kf0 := (B1.out.blk 1 (w.heap.size + 1) _ rfl rfl).froz 0 _ rfl
  have kf1 := (B1.out.blk 1 (w.heap.size + 1) _ rfl rfl).froz 1 _ rfl
  have kf2 := (B1.out.blk 1 (w.heap.size + 1) _ rfl rfl).froz 2 _ rfl
  rcases hE with rfl | rfl
  all_goals
    go_wp2_with fail
    obtain ⟨w3, hw3, B3, _⟩ := B1.out.put3 1 (w.heap.size + 1) (.int .i64 0) (.bool false) (.int .i64 0) rfl rfl
    rw [hw3]
    have yl := (B3.blk 1 (w.heap.size + 1) _ rfl rfl).lt
    have y0 := (B3.blk 1 (w.heap.size + 1) _ rfl rfl).cell 0 _ rfl
    have y1 := (B3.blk 1 (w.heap.size + 1) _ rfl rfl).cell 1 _ rfl
    have y2 := (B3.blk 1 (w.heap.size + 1) _ rfl rfl).cell 2 _ rfl
    refine bodyPost_ret (by simp [results, Try.results28, go_sem, y0, y1, y2]; try rfl) rfl ?_
    exact ⟨rfl, B3.bel⟩

set_option maxHeartbeats 4000000 in
theorem next_arg (m : Int) (b : Bool) (n e : Int) (w : World) (h : lE m b n = 0) (he : e < 1 ∨ 7 < e) : Calls Try.prog 28 #[.agg #[.int .i64 m, .bool b, .int .i64 n], .int .i64 e] w fun r w' => r = .returned (.tuple #[.agg #[.int .i64 0, .bool false, .int .i64 0], .int .i64 1]) ∧ Below w.heap.size w w' := by
  obtain ⟨W0, hW0, B0', Z0'⟩ := lay2n w #[.int .i64 m, .bool b, .int .i64 n] #[.int .i64 0, .bool false, .int .i64 0] 23 23
  have HW : Hid (_) := hW0
  have B0 : Hid (_) := B0'
  have CK : Hid (_) := fun W => lcheck_any m b n W
  rw [h] at CK
  clear hW0 B0' Z0' h
  go_enter Try.func28, Try.ntmps28
  go_wp2_with fail
  rw [HW.out]
  clear HW
  refine (CK.out _).mono ?_
  rintro r w1 ⟨rfl, hb⟩
  have B1 : Hid (_) := B0.out.step hb
  clear hb B0 CK
  go_wp2_with fail
  refine (isEvent_out e _ he).mono ?_
  rintro r w2 ⟨rfl, rfl⟩
  have kl := (B1.out.blk 1 (w.heap.size + 1) _ rfl rfl).lt
  have k0 := (B1.out.blk 1 (w.heap.size + 1) _ rfl rfl).cell 0 _ rfl
  have k1 := (B1.out.blk 1 (w.heap.size + 1) _ rfl rfl).cell 1 _ rfl
  have k2 := (B1.out.blk 1 (w.heap.size + 1) _ rfl rfl).cell 2 _ rfl
  have kf0 := (B1.out.blk 1 (w.heap.size + 1) _ rfl rfl).froz 0 _ rfl
  have kf1 := (B1.out.blk 1 (w.heap.size + 1) _ rfl rfl).froz 1 _ rfl
  have kf2 := (B1.out.blk 1 (w.heap.size + 1) _ rfl rfl).froz 2 _ rfl
  go_wp2_with fail
  obtain ⟨w3, hw3, B3, _⟩ := B1.out.put3 1 (w.heap.size + 1) (.int .i64 0) (.bool false) (.int .i64 0) rfl rfl
  rw [hw3]
  have yl := (B3.blk 1 (w.heap.size + 1) _ rfl rfl).lt
  have y0 := (B3.blk 1 (w.heap.size + 1) _ rfl rfl).cell 0 _ rfl
  have y1 := (B3.blk 1 (w.heap.size + 1) _ rfl rfl).cell 1 _ rfl
  have y2 := (B3.blk 1 (w.heap.size + 1) _ rfl rfl).cell 2 _ rfl
  refine bodyPost_ret (by simp [results, Try.results28, go_sem, y0, y1, y2]; try rfl) rfl ?_
  exact ⟨rfl, B3.bel⟩

set_option maxHeartbeats 4000000 in
theorem next_ok (m : Int) (b : Bool) (n e : Int) (w : World) (h : lE m b n = 0) (h1 : 1 ≤ e) (h2 : e ≤ 7) :
    Calls Try.prog 28 #[.agg #[.int .i64 m, .bool b, .int .i64 n], .int .i64 e] w fun r w' => r = .returned (.tuple #[.agg #[.int .i64 (nM m b e), .bool (nB b e), .int .i64 (nF m (nM m b e) n)], .int .i64 0]) ∧ Below w.heap.size w w' := by
  obtain ⟨W0, hW0, B0', Z0'⟩ := lay2n w #[.int .i64 m, .bool b, .int .i64 n] #[.int .i64 0, .bool false, .int .i64 0] 23 23
  have HW : Hid (_) := hW0
  have B0 : Hid (_) := B0'
  have CK : Hid (_) := fun W => lcheck_any m b n W
  rw [h] at CK
  have CA : Hid (∀ (B c : Nat) (D : DataW Unit) (W : World), Tb D → W.ownsMap Try.prog 60 RL B c D → Calls Try.prog 30 #[.agg #[.int .i64 m, .bool b, .int .i64 n], .int .i64 e, .map (some B)] W fun r w' => r = .returned (.agg #[.int .i64 (nM m b e), .bool (nB b e), .int .i64 (nF m (nM m b e) n)]) ∧ Below W.heap.size W w') :=
    fun B c D W hT ho => after_any m b n e B c D W (comb_in h h1 h2) hT ho
  clear hW0 B0' Z0' h
  generalize nF m (nM m b e) n = F' at *
  generalize nM m b e = M' at *
  generalize nB b e = b' at *
  go_enter Try.func28, Try.ntmps28
  go_wp2_with fail
  rw [HW.out]
  clear HW
  refine (CK.out _).mono ?_
  rintro r w1 ⟨rfl, hb⟩
  have B1 : Hid (_) := B0.out.step hb
  clear hb B0 CK
  go_wp2_with fail
  refine (isEvent_in e _ h1 h2).mono ?_
  rintro r w2 ⟨rfl, rfl⟩
  go_wp2_with fail
  have pl := (B1.out.blk 0 (w.heap.size) _ rfl rfl).lt
  have p0 := (B1.out.blk 0 (w.heap.size) _ rfl rfl).cell 0 _ rfl
  have p1 := (B1.out.blk 0 (w.heap.size) _ rfl rfl).cell 1 _ rfl
  have p2 := (B1.out.blk 0 (w.heap.size) _ rfl rfl).cell 2 _ rfl
  have kl := (B1.out.blk 1 (w.heap.size + 1) _ rfl rfl).lt
  have k0 := (B1.out.blk 1 (w.heap.size + 1) _ rfl rfl).cell 0 _ rfl
  have k1 := (B1.out.blk 1 (w.heap.size + 1) _ rfl rfl).cell 1 _ rfl
  have k2 := (B1.out.blk 1 (w.heap.size + 1) _ rfl rfl).cell 2 _ rfl
  have kf0 := (B1.out.blk 1 (w.heap.size + 1) _ rfl rfl).froz 0 _ rfl
  have kf1 := (B1.out.blk 1 (w.heap.size + 1) _ rfl rfl).froz 1 _ rfl
  have kf2 := (B1.out.blk 1 (w.heap.size + 1) _ rfl rfl).froz 2 _ rfl
  go_region_held3 (fun w' => (w'.cell? ⟨w.heap.size, 0, none⟩ = some (.int .i64 m) ∧ w'.cell? ⟨w.heap.size, 1, none⟩ = some (.bool b) ∧ w'.cell? ⟨w.heap.size, 2, none⟩ = some (.int .i64 n))) (go_keep) (first | (go_at_call 31; refine (changes_any _).mono ?_; rintro r w3 ⟨B, D, rfl, hb, hB, ho, hT⟩; have B3 : Hid (Lay w _ w3) := (B1.out.drew).step hb; have HO : Hid (_) := ho; have HT : Hid (Tb D) := hT; have a0 := (B3.out.blk 0 (w.heap.size) _ rfl rfl).cell 0 _ rfl; have a1 := (B3.out.blk 0 (w.heap.size) _ rfl rfl).cell 1 _ rfl; have a2 := (B3.out.blk 0 (w.heap.size) _ rfl rfl).cell 2 _ rfl; clear hb hB ho hT) | (go_at_call 30; refine (CA.out _ _ _ _ HT.out HO.out).mono ?_; rintro r w4 ⟨rfl, hb⟩; have B4 : Hid (Lay w _ w4) := B3.out.step hb; have c0 := (B4.out.blk 0 (w.heap.size) _ rfl rfl).cell 0 _ rfl; have c1 := (B4.out.blk 0 (w.heap.size) _ rfl rfl).cell 1 _ rfl; have c2 := (B4.out.blk 0 (w.heap.size) _ rfl rfl).cell 2 _ rfl; have d0 := (B4.out.blk 1 (w.heap.size + 1) _ rfl rfl).cell 0 _ rfl; have d1 := (B4.out.blk 1 (w.heap.size + 1) _ rfl rfl).cell 1 _ rfl; have d2 := (B4.out.blk 1 (w.heap.size + 1) _ rfl rfl).cell 2 _ rfl; have df0 := (B4.out.blk 1 (w.heap.size + 1) _ rfl rfl).froz 0 _ rfl; have df1 := (B4.out.blk 1 (w.heap.size + 1) _ rfl rfl).froz 1 _ rfl; have df2 := (B4.out.blk 1 (w.heap.size + 1) _ rfl rfl).froz 2 _ rfl; clear hb))
  all_goals (try go_wp2_with fail)
  obtain ⟨w5, hw5, B5, _⟩ := B4.out.put3 1 (w.heap.size + 1) (.int .i64 M') (.bool b') (.int .i64 F') rfl rfl
  rw [hw5]
  have yl := (B5.blk 1 (w.heap.size + 1) _ rfl rfl).lt
  have y0 := (B5.blk 1 (w.heap.size + 1) _ rfl rfl).cell 0 _ rfl
  have y1 := (B5.blk 1 (w.heap.size + 1) _ rfl rfl).cell 1 _ rfl
  have y2 := (B5.blk 1 (w.heap.size + 1) _ rfl rfl).cell 2 _ rfl
  refine bodyPost_ret (by simp [results, Try.results28, go_sem, y0, y1, y2]; try rfl) rfl ?_
  exact ⟨rfl, B5.bel⟩

end Go.Proofs.Ytnomceopmjlbhaa
