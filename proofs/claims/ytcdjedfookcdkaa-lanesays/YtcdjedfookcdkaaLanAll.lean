/-
  Contracts of lane.Tick and lane.All.
-/
import Derived.Test.YtcdjedfookcdkaaLanNxt
namespace Go.Proofs.Ytcdjedfookcdkaa
open Go.RowKit
set_option linter.unusedVariables false

/-- how long it has been so one frame later -/
def tkI (n : Int) : Int := if n < 10000 then n + 1 else 10000

set_option maxHeartbeats 4000000 in
theorem ltick_bad (m : Int) (b : Bool) (n E : Int) (w : World) (h : lE m b n = E) (hE : E = 1 ∨ E = 4) : Calls Try.prog 7 #[.agg #[.int .i64 m, .bool b, .int .i64 n]] w fun r w' => r = .returned (.tuple #[.agg #[.int .i64 0, .bool false, .int .i64 0], .int .i64 E]) ∧ Below w.heap.size w w' := by
  obtain ⟨W0, hW0, B0', Z0'⟩ := lay2n w #[.int .i64 m, .bool b, .int .i64 n] #[.int .i64 0, .bool false, .int .i64 0] 23 23
  have HW : Hid (_) := hW0
  have B0 : Hid (_) := B0'
  have CK : Hid (_) := fun W => lcheck_any m b n W
  rw [h] at CK
  clear hW0 B0' Z0' h
  go_enter Try.func7, Try.ntmps7
  go_wp2_with fail
  rw [HW.out]
  clear HW
  refine (CK.out _).mono ?_
  rintro r w1 ⟨rfl, hb⟩
  have B1 : Hid (_) := B0.out.step hb
  clear hb B0 CK
  have kl := (B1.out.blk 1 (w.heap.size + 1) _ rfl rfl).lt
  have k0 := (B1.out.blk 1 (w.heap.size + 1) _ rfl rfl).cell 0 _ rfl
  have k1 := (B1.out.blk 1 (w.heap.size + 1) _ rfl rfl).cell 1 _ rfl
  have k2 := (B1.out.blk 1 (w.heap.size + 1) _ rfl rfl).cell 2 _ rfl
  have kf0 := (B1.out.blk 1 (w.heap.size + 1) _ rfl rfl).froz 0 _ rfl
  have kf1 := (B1.out.blk 1 (w.heap.size + 1) _ rfl rfl).froz 1 _ rfl
  have kf2 := (B1.out.blk 1 (w.heap.size + 1) _ rfl rfl).froz 2 _ rfl
  rcases hE with rfl | rfl
  all_goals
    go_wp2_with fail
    obtain ⟨w3, hw3, B3, _⟩ := B1.out.put3 1 (w.heap.size + 1) (.int .i64 0) (.bool false) (.int .i64 0) rfl rfl
    rw [hw3]
    have yl := (B3.blk 1 (w.heap.size + 1) _ rfl rfl).lt
    have y0 := (B3.blk 1 (w.heap.size + 1) _ rfl rfl).cell 0 _ rfl
    have y1 := (B3.blk 1 (w.heap.size + 1) _ rfl rfl).cell 1 _ rfl
    have y2 := (B3.blk 1 (w.heap.size + 1) _ rfl rfl).cell 2 _ rfl
    refine bodyPost_ret (by simp [results, Try.results7, go_sem, y0, y1, y2]; try rfl) rfl ?_
    exact ⟨rfl, B3.bel⟩

set_option maxHeartbeats 4000000 in
theorem ltick_ok (m : Int) (b : Bool) (n : Int) (w : World) (h : lE m b n = 0) : Calls Try.prog 7 #[.agg #[.int .i64 m, .bool b, .int .i64 n]] w fun r w' => r = .returned (.tuple #[.agg #[.int .i64 m, .bool b, .int .i64 (tkI n)], .int .i64 0]) ∧ Below w.heap.size w w' := by
  obtain ⟨_, ⟨h1, h2⟩, _⟩ := lE_ok h
  obtain ⟨W0, hW0, B0', Z0'⟩ := lay2n w #[.int .i64 m, .bool b, .int .i64 n] #[.int .i64 0, .bool false, .int .i64 0] 23 23
  have HW : Hid (_) := hW0
  have B0 : Hid (_) := B0'
  have CK : Hid (_) := fun W => lcheck_any m b n W
  rw [h] at CK
  clear hW0 B0' Z0' h
  have h3 : (n + 1 < 10000 ∧ tkI n = n + 1) ∨ (n = 9999 ∧ tkI n = 10000) ∨ (10000 < n + 1 ∧ tkI n = 10000) := by unfold tkI; split <;> omega
  generalize tkI n = T at h3 ⊢
  rcases h3 with ⟨q, rfl⟩ | ⟨rfl, rfl⟩ | ⟨q, rfl⟩
  · go_enter Try.func7, Try.ntmps7
    go_wp2_with fail
    rw [HW.out]
    clear HW
    refine (CK.out _).mono ?_
    rintro r w1 ⟨rfl, hb⟩
    have B1 : Hid (_) := B0.out.step hb
    clear hb B0 CK
    have pl := (B1.out.blk 0 (w.heap.size) _ rfl rfl).lt
    have p0 := (B1.out.blk 0 (w.heap.size) _ rfl rfl).cell 0 _ rfl
    have p1 := (B1.out.blk 0 (w.heap.size) _ rfl rfl).cell 1 _ rfl
    have p2 := (B1.out.blk 0 (w.heap.size) _ rfl rfl).cell 2 _ rfl
    have pf0 := (B1.out.blk 0 (w.heap.size) _ rfl rfl).froz 0 _ rfl
    have pf1 := (B1.out.blk 0 (w.heap.size) _ rfl rfl).froz 1 _ rfl
    have pf2 := (B1.out.blk 0 (w.heap.size) _ rfl rfl).froz 2 _ rfl
    have kl := (B1.out.blk 1 (w.heap.size + 1) _ rfl rfl).lt
    have k0 := (B1.out.blk 1 (w.heap.size + 1) _ rfl rfl).cell 0 _ rfl
    have k1 := (B1.out.blk 1 (w.heap.size + 1) _ rfl rfl).cell 1 _ rfl
    have k2 := (B1.out.blk 1 (w.heap.size + 1) _ rfl rfl).cell 2 _ rfl
    have kf0 := (B1.out.blk 1 (w.heap.size + 1) _ rfl rfl).froz 0 _ rfl
    have kf1 := (B1.out.blk 1 (w.heap.size + 1) _ rfl rfl).froz 1 _ rfl
    have kf2 := (B1.out.blk 1 (w.heap.size + 1) _ rfl rfl).froz 2 _ rfl
    go_wp2_with fail
    obtain ⟨w2, hw2, B2, _⟩ := B1.out.put1 0 (w.heap.size) 2 _ (.int .i64 (n + 1)) rfl rfl (by simp)
    rw [hw2]
    obtain ⟨w3, hw3, B3, _⟩ := B2.put3 1 (w.heap.size + 1) (.int .i64 m) (.bool b) (.int .i64 (n + 1)) rfl rfl
    rw [hw3]
    have yl := (B3.blk 1 (w.heap.size + 1) _ rfl rfl).lt
    have y0 := (B3.blk 1 (w.heap.size + 1) _ rfl rfl).cell 0 _ rfl
    have y1 := (B3.blk 1 (w.heap.size + 1) _ rfl rfl).cell 1 _ rfl
    have y2 := (B3.blk 1 (w.heap.size + 1) _ rfl rfl).cell 2 _ rfl
    refine bodyPost_ret (by simp [results, Try.results7, go_sem, y0, y1, y2]; try rfl) rfl ?_
    exact ⟨rfl, B3.bel⟩
  · go_enter Try.func7, Try.ntmps7
    go_wp2_with fail
    rw [HW.out]
    clear HW
    refine (CK.out _).mono ?_
    rintro r w1 ⟨rfl, hb⟩
    have B1 : Hid (_) := B0.out.step hb
    clear hb B0 CK
    have pl := (B1.out.blk 0 (w.heap.size) _ rfl rfl).lt
    have p0 := (B1.out.blk 0 (w.heap.size) _ rfl rfl).cell 0 _ rfl
    have p1 := (B1.out.blk 0 (w.heap.size) _ rfl rfl).cell 1 _ rfl
    have p2 := (B1.out.blk 0 (w.heap.size) _ rfl rfl).cell 2 _ rfl
    have pf0 := (B1.out.blk 0 (w.heap.size) _ rfl rfl).froz 0 _ rfl
    have pf1 := (B1.out.blk 0 (w.heap.size) _ rfl rfl).froz 1 _ rfl
    have pf2 := (B1.out.blk 0 (w.heap.size) _ rfl rfl).froz 2 _ rfl
    have kl := (B1.out.blk 1 (w.heap.size + 1) _ rfl rfl).lt
    have k0 := (B1.out.blk 1 (w.heap.size + 1) _ rfl rfl).cell 0 _ rfl
    have k1 := (B1.out.blk 1 (w.heap.size + 1) _ rfl rfl).cell 1 _ rfl
    have k2 := (B1.out.blk 1 (w.heap.size + 1) _ rfl rfl).cell 2 _ rfl
    have kf0 := (B1.out.blk 1 (w.heap.size + 1) _ rfl rfl).froz 0 _ rfl
    have kf1 := (B1.out.blk 1 (w.heap.size + 1) _ rfl rfl).froz 1 _ rfl
    have kf2 := (B1.out.blk 1 (w.heap.size + 1) _ rfl rfl).froz 2 _ rfl
    go_wp2_with fail
    obtain ⟨w2, hw2, B2, _⟩ := B1.out.put1 0 (w.heap.size) 2 _ (.int .i64 10000) rfl rfl (by simp)
    rw [hw2]
    obtain ⟨w3, hw3, B3, _⟩ := B2.put3 1 (w.heap.size + 1) (.int .i64 m) (.bool b) (.int .i64 10000) rfl rfl
    rw [hw3]
    have yl := (B3.blk 1 (w.heap.size + 1) _ rfl rfl).lt
    have y0 := (B3.blk 1 (w.heap.size + 1) _ rfl rfl).cell 0 _ rfl
    have y1 := (B3.blk 1 (w.heap.size + 1) _ rfl rfl).cell 1 _ rfl
    have y2 := (B3.blk 1 (w.heap.size + 1) _ rfl rfl).cell 2 _ rfl
    refine bodyPost_ret (by simp [results, Try.results7, go_sem, y0, y1, y2]; try rfl) rfl ?_
    exact ⟨rfl, B3.bel⟩
  · go_enter Try.func7, Try.ntmps7
    go_wp2_with fail
    rw [HW.out]
    clear HW
    refine (CK.out _).mono ?_
    rintro r w1 ⟨rfl, hb⟩
    have B1 : Hid (_) := B0.out.step hb
    clear hb B0 CK
    have pl := (B1.out.blk 0 (w.heap.size) _ rfl rfl).lt
    have p0 := (B1.out.blk 0 (w.heap.size) _ rfl rfl).cell 0 _ rfl
    have p1 := (B1.out.blk 0 (w.heap.size) _ rfl rfl).cell 1 _ rfl
    have p2 := (B1.out.blk 0 (w.heap.size) _ rfl rfl).cell 2 _ rfl
    have pf0 := (B1.out.blk 0 (w.heap.size) _ rfl rfl).froz 0 _ rfl
    have pf1 := (B1.out.blk 0 (w.heap.size) _ rfl rfl).froz 1 _ rfl
    have pf2 := (B1.out.blk 0 (w.heap.size) _ rfl rfl).froz 2 _ rfl
    have kl := (B1.out.blk 1 (w.heap.size + 1) _ rfl rfl).lt
    have k0 := (B1.out.blk 1 (w.heap.size + 1) _ rfl rfl).cell 0 _ rfl
    have k1 := (B1.out.blk 1 (w.heap.size + 1) _ rfl rfl).cell 1 _ rfl
    have k2 := (B1.out.blk 1 (w.heap.size + 1) _ rfl rfl).cell 2 _ rfl
    have kf0 := (B1.out.blk 1 (w.heap.size + 1) _ rfl rfl).froz 0 _ rfl
    have kf1 := (B1.out.blk 1 (w.heap.size + 1) _ rfl rfl).froz 1 _ rfl
    have kf2 := (B1.out.blk 1 (w.heap.size + 1) _ rfl rfl).froz 2 _ rfl
    go_wp2_with fail
    obtain ⟨w2, hw2, B2, _⟩ := B1.out.put1 0 (w.heap.size) 2 _ (.int .i64 10000) rfl rfl (by simp)
    rw [hw2]
    obtain ⟨w3, hw3, B3, _⟩ := B2.put3 1 (w.heap.size + 1) (.int .i64 m) (.bool b) (.int .i64 10000) rfl rfl
    rw [hw3]
    have yl := (B3.blk 1 (w.heap.size + 1) _ rfl rfl).lt
    have y0 := (B3.blk 1 (w.heap.size + 1) _ rfl rfl).cell 0 _ rfl
    have y1 := (B3.blk 1 (w.heap.size + 1) _ rfl rfl).cell 1 _ rfl
    have y2 := (B3.blk 1 (w.heap.size + 1) _ rfl rfl).cell 2 _ rfl
    refine bodyPost_ret (by simp [results, Try.results7, go_sem, y0, y1, y2]; try rfl) rfl ?_
    exact ⟨rfl, B3.bel⟩

/-- a state behind an event; behind k of them -/
def stp (s : Int × Bool × Int) (e : Int) : Int × Bool × Int := (nM s.1 s.2.1 e, nB s.2.1 e, nF s.1 (nM s.1 s.2.1 e) s.2.2)
def rnS (s : Int × Bool × Int) (f : Nat → Int) : Nat → Int × Bool × Int
  | 0 => s
  | k + 1 => stp (rnS s f k) (f k)

set_option maxHeartbeats 4000000 in
theorem all_bad (m : Int) (b : Bool) (n E : Int) (v : Value) (w : World) (h : lE m b n = E) (hE : E = 1 ∨ E = 4) : Calls Try.prog 8 #[.agg #[.int .i64 m, .bool b, .int .i64 n], v] w fun r w' => r = .returned (.tuple #[.agg #[.int .i64 0, .bool false, .int .i64 0], .int .i64 0, .int .i64 E]) ∧ Below w.heap.size w w' := by
  obtain ⟨W0, hW0, B0', Z0'⟩ := lay2n w #[.int .i64 m, .bool b, .int .i64 n] #[.int .i64 0, .bool false, .int .i64 0] 23 23
  have HW : Hid (_) := hW0
  have B0 : Hid (_) := B0'
  have CK : Hid (_) := fun W => lcheck_any m b n W
  rw [h] at CK
  clear hW0 B0' Z0' h
  go_enter Try.func8, Try.ntmps8
  go_wp2_with fail
  rw [HW.out]
  clear HW
  refine (CK.out _).mono ?_
  rintro r w1 ⟨rfl, hb⟩
  have B1 : Hid (_) := B0.out.step hb
  clear hb B0 CK
  have kl := (B1.out.blk 1 (w.heap.size + 1) _ rfl rfl).lt
  have k0 := (B1.out.blk 1 (w.heap.size + 1) _ rfl rfl).cell 0 _ rfl
  have k1 := (B1.out.blk 1 (w.heap.size + 1) _ rfl rfl).cell 1 _ rfl
  have k2 := (B1.out.blk 1 (w.heap.size + 1) _ rfl rfl).cell 2 _ rfl
  have kf0 := (B1.out.blk 1 (w.heap.size + 1) _ rfl rfl).froz 0 _ rfl
  have kf1 := (B1.out.blk 1 (w.heap.size + 1) _ rfl rfl).froz 1 _ rfl
  have kf2 := (B1.out.blk 1 (w.heap.size + 1) _ rfl rfl).froz 2 _ rfl
  rcases hE with rfl | rfl
  all_goals
    go_wp2_with fail
    obtain ⟨w3, hw3, B3, _⟩ := B1.out.put3 1 (w.heap.size + 1) (.int .i64 0) (.bool false) (.int .i64 0) rfl rfl
    rw [hw3]
    have yl := (B3.blk 1 (w.heap.size + 1) _ rfl rfl).lt
    have y0 := (B3.blk 1 (w.heap.size + 1) _ rfl rfl).cell 0 _ rfl
    have y1 := (B3.blk 1 (w.heap.size + 1) _ rfl rfl).cell 1 _ rfl
    have y2 := (B3.blk 1 (w.heap.size + 1) _ rfl rfl).cell 2 _ rfl
    refine bodyPost_ret (by simp [results, Try.results8, go_sem, y0, y1, y2]; try rfl) rfl ?_
    exact ⟨rfl, B3.bel⟩

set_option maxHeartbeats 8000000 in
theorem all_ok (m : Int) (b : Bool) (n : Int) (a : Option Addr) (k cap q : Nat) (f : Nat → Int) (x : Int) (M : Int) (Bb : Bool) (F : Int) (w : World) (h : lE m b n = 0) (hk : k ≤ 17592186043904)
    (hl : 0 < k → ∃ b off, a = some ⟨b, off, none⟩ ∧ b < w.heap.size ∧ ∀ j : Nat, j < k → w.cell? ⟨b, off + j, none⟩ = some (.int .i64 (f j)))
    (hf : ∀ j, j < q → 1 ≤ f j ∧ f j ≤ 7) (hq : q = k ∧ x = 0 ∨ q < k ∧ (f q < 1 ∨ 7 < f q) ∧ x = 1) (hr : rnS (m, b, n) f q = (M, Bb, F)) :
    Calls Try.prog 8 #[.agg #[.int .i64 m, .bool b, .int .i64 n], .slice a k cap] w fun r w' => r = .returned (.tuple #[.agg #[.int .i64 M, .bool Bb, .int .i64 F], .int .i64 q, .int .i64 x]) ∧ Below w.heap.size w w' := by
  obtain ⟨W0, hW0, B0', Z0'⟩ := lay2n w #[.int .i64 m, .bool b, .int .i64 n] #[.int .i64 0, .bool false, .int .i64 0] 23 23
  have HW : Hid (_) := hW0
  have B0 : Hid (_) := B0'
  have CK : Hid (_) := fun W => lcheck_any m b n W
  rw [h] at CK
  have HL : Hid (_) := hl
  have HF : Hid (∀ j, j < q → 1 ≤ f j ∧ f j ≤ 7) := hf
  have HQ : Hid (_) := hq
  have HR : Hid (rnS (m, b, n) f q = (M, Bb, F)) := hr
  have HE : Hid (lE m b n = 0) := h
  have hqk : q ≤ k := by omega
  clear hW0 B0' Z0' h hl hf hq hr
  go_enter Try.func8, Try.ntmps8
  go_wp2_with fail
  rw [HW.out]
  clear HW
  refine (CK.out _).mono ?_
  rintro r w1 ⟨rfl, hb⟩
  have B1 : Hid (_) := B0.out.step hb
  clear hb B0 CK
  go_wp2_with fail
  refine (changes_any _).mono ?_
  rintro r w2 ⟨B, D, rfl, hb, hB, ho, hT⟩
  have B2 : Hid (_) := B1.out.step hb
  have HO : Hid (_) := ho
  have HT : Hid (Tb D) := hT
  have HBB : Hid (w.heap.size + 1 < B) := by show w.heap.size + 1 < B; have := (B1.out.blk 1 (w.heap.size + 1) _ rfl rfl).lt; omega
  clear hb hB ho hT B1
  go_wp2_with fail
  go_loopg [20] (q + 1) (fun g t wr => ∃ (j : Nat) (M1 : Int) (b1 : Bool) (F1 : Int), t = .int .i64 j ∧ q - j < g ∧ j ≤ q ∧ Hid (rnS (m, b, n) f j = (M1, b1, F1)) ∧ Hid (lE M1 b1 F1 = 0) ∧ Hid (Lay w [[.int .i64 M1, .bool b1, .int .i64 F1], [.int .i64 0, .bool false, .int .i64 0]] wr) ∧ Hid (wr.ownsMap Try.prog 41 RL B 14 D))
  case atStart => exact ⟨0, m, b, n, rfl, by omega, by omega, rfl, HE.out, B2.out, HO.out⟩
  case round =>
    obtain ⟨j, M1, b1, F1, rfl, hg, hj, HR1, HE1, HB1, HO1⟩ := hrel
    clear B2 HO
    have pl := (HB1.out.blk 0 (w.heap.size) _ rfl rfl).lt
    have p0 := (HB1.out.blk 0 (w.heap.size) _ rfl rfl).cell 0 _ rfl
    have p1 := (HB1.out.blk 0 (w.heap.size) _ rfl rfl).cell 1 _ rfl
    have p2 := (HB1.out.blk 0 (w.heap.size) _ rfl rfl).cell 2 _ rfl
    have pf0 := (HB1.out.blk 0 (w.heap.size) _ rfl rfl).froz 0 _ rfl
    have pf1 := (HB1.out.blk 0 (w.heap.size) _ rfl rfl).froz 1 _ rfl
    have pf2 := (HB1.out.blk 0 (w.heap.size) _ rfl rfl).froz 2 _ rfl
    have kl := (HB1.out.blk 1 (w.heap.size + 1) _ rfl rfl).lt
    have k0 := (HB1.out.blk 1 (w.heap.size + 1) _ rfl rfl).cell 0 _ rfl
    have k1 := (HB1.out.blk 1 (w.heap.size + 1) _ rfl rfl).cell 1 _ rfl
    have k2 := (HB1.out.blk 1 (w.heap.size + 1) _ rfl rfl).cell 2 _ rfl
    have kf0 := (HB1.out.blk 1 (w.heap.size + 1) _ rfl rfl).froz 0 _ rfl
    have kf1 := (HB1.out.blk 1 (w.heap.size + 1) _ rfl rfl).froz 1 _ rfl
    have kf2 := (HB1.out.blk 1 (w.heap.size + 1) _ rfl rfl).froz 2 _ rfl
    by_cases hjq : j < q
    · have z1 : (j : Int) < (k : Int) := by omega
      obtain ⟨b0, off, rfl, hbl, hcell⟩ := HL.out (by omega)
      have x0 := (HB1.out.bel.cell (p := ⟨b0, off + j, none⟩) hbl).trans (hcell j (by omega))
      clear hcell
      obtain ⟨e1, e2⟩ := HF.out j hjq
      have HR2 : Hid (rnS (m, b, n) f (j + 1) = (nM M1 b1 (f j), nB b1 (f j), nF M1 (nM M1 b1 (f j)) F1)) := by show stp (rnS (m, b, n) f j) (f j) = _; rw [HR1.out]; rfl
      have HE2 : Hid (lE (nM M1 b1 (f j)) (nB b1 (f j)) (nF M1 (nM M1 b1 (f j)) F1) = 0) := lE_next HE1.out e1 e2
      have CA : Hid (∀ (W : World), W.ownsMap Try.prog 41 RL B 14 D → Calls Try.prog 14 #[.agg #[.int .i64 M1, .bool b1, .int .i64 F1], .int .i64 (f j), .map (some B)] W fun r w' => r = .returned (.agg #[.int .i64 (nM M1 b1 (f j)), .bool (nB b1 (f j)), .int .i64 (nF M1 (nM M1 b1 (f j)) F1)]) ∧ Below W.heap.size W w') :=
        fun W ho => after_any M1 b1 F1 (f j) B 14 D W (comb_in HE1.out e1 e2) HT.out ho
      generalize nF M1 (nM M1 b1 (f j)) F1 = F2 at *
      generalize nM M1 b1 (f j) = M2 at *
      generalize nB b1 (f j) = b2 at *
      go_wp2_with fail
      refine (isEvent_in (f j) _ e1 e2).mono ?_
      rintro r w3 ⟨rfl, rfl⟩
      go_wp2_with fail
      refine (CA.out _ HO1.out).mono ?_
      rintro r w4 ⟨rfl, hb⟩
      have B4 : Hid (_) := HB1.out.step hb
      have HO4 : Hid (_) := HO1.out.kept (lgrown_of hb) (by simp)
      clear hb p0 p1 p2 pl pf0 pf1 pf2 k0 k1 k2 kl kf0 kf1 kf2 x0 CA HB1 HO1
      have pl := (B4.out.blk 0 (w.heap.size) _ rfl rfl).lt
      have p0 := (B4.out.blk 0 (w.heap.size) _ rfl rfl).cell 0 _ rfl
      have p1 := (B4.out.blk 0 (w.heap.size) _ rfl rfl).cell 1 _ rfl
      have p2 := (B4.out.blk 0 (w.heap.size) _ rfl rfl).cell 2 _ rfl
      have pf0 := (B4.out.blk 0 (w.heap.size) _ rfl rfl).froz 0 _ rfl
      have pf1 := (B4.out.blk 0 (w.heap.size) _ rfl rfl).froz 1 _ rfl
      have pf2 := (B4.out.blk 0 (w.heap.size) _ rfl rfl).froz 2 _ rfl
      go_wp2_with fail
      obtain ⟨w5, hw5, B5, K5⟩ := B4.out.put3 0 (w.heap.size) (.int .i64 M2) (.bool b2) (.int .i64 F2) rfl rfl
      have HW5 : Hid (_) := hw5
      have B5' : Hid (_) := B5
      have HO5 : Hid (_) := K5 _ _ _ _ _ _ (by have := HBB.out; omega) HO4.out
      clear hw5 B5 K5
      rw [HW5.out]
      go_roundg (q - (j + 1) + 1)
      case measure => omega
      case rel => exact ⟨j + 1, M2, b2, F2, by go_num, by omega, by omega, HR2.out, HE2.out, B5'.out, HO5.out⟩
    · obtain rfl : j = q := by omega
      have e5 : (M1, b1, F1) = (M, Bb, F) := HR1.out.symm.trans HR.out
      simp only [Prod.mk.injEq] at e5
      obtain ⟨rfl, rfl, rfl⟩ := e5
      rcases HQ.out with ⟨rfl, rfl⟩ | ⟨hlt, hbad, rfl⟩
      · have z1 : ¬ (j : Int) < (j : Int) := by omega
        go_wp2_with fail
        obtain ⟨w5, hw5, B5, _⟩ := HB1.out.put3 1 (w.heap.size + 1) (.int .i64 M1) (.bool b1) (.int .i64 F1) rfl rfl
        rw [hw5]
        have yl := (B5.blk 1 (w.heap.size + 1) _ rfl rfl).lt
        have y0 := (B5.blk 1 (w.heap.size + 1) _ rfl rfl).cell 0 _ rfl
        have y1 := (B5.blk 1 (w.heap.size + 1) _ rfl rfl).cell 1 _ rfl
        have y2 := (B5.blk 1 (w.heap.size + 1) _ rfl rfl).cell 2 _ rfl
        refine bodyPost_ret (by simp [results, Try.results8, go_sem, y0, y1, y2]; try rfl) rfl ?_
        exact ⟨rfl, B5.bel⟩
      · have z1 : (j : Int) < (k : Int) := by omega
        obtain ⟨b0, off, rfl, hbl, hcell⟩ := HL.out (by omega)
        have x0 := (HB1.out.bel.cell (p := ⟨b0, off + j, none⟩) hbl).trans (hcell j (by omega))
        clear hcell
        go_wp2_with fail
        refine (isEvent_out (f j) _ hbad).mono ?_
        rintro r w3 ⟨rfl, rfl⟩
        go_wp2_with fail
        obtain ⟨w5, hw5, B5, _⟩ := HB1.out.put3 1 (w.heap.size + 1) (.int .i64 M1) (.bool b1) (.int .i64 F1) rfl rfl
        rw [hw5]
        have yl := (B5.blk 1 (w.heap.size + 1) _ rfl rfl).lt
        have y0 := (B5.blk 1 (w.heap.size + 1) _ rfl rfl).cell 0 _ rfl
        have y1 := (B5.blk 1 (w.heap.size + 1) _ rfl rfl).cell 1 _ rfl
        have y2 := (B5.blk 1 (w.heap.size + 1) _ rfl rfl).cell 2 _ rfl
        refine bodyPost_ret (by simp [results, Try.results8, go_sem, y0, y1, y2]; try rfl) rfl ?_
        exact ⟨rfl, B5.bel⟩

end Go.Proofs.Ytcdjedfookcdkaa
