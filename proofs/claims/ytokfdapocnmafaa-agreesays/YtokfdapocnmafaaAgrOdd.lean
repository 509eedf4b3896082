/-
  Whether lane j told lane k of both others another number than these told k themselves: agree.gainsaysBoth; of each lane but k: agree.Odd.
-/
import Derived.Test.YtokfdapocnmafaaAgrView
import Derived.Deep.RegionHeld3
namespace Go.Proofs.Ytokfdapocnmafaa
open Go.RowKit
set_option linter.unusedVariables false

/-- whether j told k another number of i's than i told k itself -/
def gs (T : Nat → Int) (i j k : Nat) : Bool := !(told T i j k == said T i k)
/-- of both others -/
def gb (T : Nat → Int) (j k : Nat) : Bool := gs T (oth1 j k) j k && gs T (oth2 j k) j k

set_option maxHeartbeats 2000000 in
theorem gains_any (T : Nat → Int) (j k p q : Nat) (hj : j < 4) (hk : k < 4) (hp : p < 4) (hq : q < 4) (w : World) (HO : ∀ w : World, Calls Try.prog 18 #[.int .i64 j, .int .i64 k] w fun e w' => e = .returned (.agg #[.int .i64 p, .int .i64 q]) ∧ Below w.heap.size w w') :
    Calls Try.prog 16 #[.agg (tk T), .int .i64 j, .int .i64 k] w fun e w' => e = .returned (.bool (gs T p j k && gs T q j k)) ∧ Below w.heap.size w w' := by
  have z0 : (k : Int) < 4 := by omega
  have z1 : (j : Int) < 4 := by omega
  have z2 : (p : Int) < 4 := by omega
  have z3 : (q : Int) < 4 := by omega
  obtain ⟨G, hG⟩ : ∃ G, G = (gs T p j k && gs T q j k) := ⟨_, rfl⟩
  rw [← hG]
  have HG : Hid (G = (gs T p j k && gs T q j k)) := hG
  clear hG
  go_enter Try.func16, Try.ntmps16
  go_wp2_with fail
  refine (HO _).mono ?_
  rintro e w1 ⟨rfl, hb⟩
  have C0 : Hid (TB w1 w.heap.size T) := Blk.step (tb_new w T 26) hb
  have B1 : Hid (Below w.heap.size w w1) := ((Below.refl _ w).alloc (Nat.le_refl _) _).trans (hb.mono (by simp))
  clear hb HO
  go_wp2_with fail
  go_loopg [12] 3 (fun g u wr => ∃ r d : Nat, u = .int .i64 r ∧ 2 - r < g ∧ r ≤ 2 ∧ wr = w1.drewN d ∧ Hid ((0 < r → gs T p j k = true) ∧ (1 < r → gs T q j k = true)))
  case atStart => exact ⟨0, 0, rfl, by omega, by omega, rfl, ⟨fun h => absurd h (by omega), fun h => absurd h (by omega)⟩⟩
  case round =>
    obtain ⟨r, d, rfl, hg, hr, rfl, HS⟩ := hrel
    obtain rfl | rfl | rfl : r = 0 ∨ r = 1 ∨ r = 2 := by omega
    · have i0 : ∀ w, (Instr.index 47 (.agg #[.int .i64 p, .int .i64 q]) (.int .i64 0)).run Try.prog w = .ok (.int .i64 p) w := fun _ => by kernel_rfl
      have y0 := C0.out.said hp hk
      have y1 := C0.out.told hp hj hk
      cases e : gs T p j k
      · have b1 : (told T p j k == said T p k) = true := by simpa [gs] using e
        have E1 : Hid (G = false) := by rw [HG.out, e]; rfl
        clear HG HS e
        generalize told T p j k = v1 at *
        generalize said T p k = v0 at *
        go_wp2_with fail
        go_quiet (fail)
        go_wp2_with fail
        go_ret
        exact ⟨by rw [E1.out]; rfl, ⟨B1.out.os, B1.out.tape, B1.out.output, B1.out.size, B1.out.block⟩⟩
      · have b1 : (told T p j k == said T p k) = false := by simpa [gs] using e
        have E1 : Hid (gs T p j k = true) := e
        clear e
        generalize told T p j k = v1 at y1 b1
        generalize said T p k = v0 at y0 b1
        go_wp2_with fail
        go_quiet (fail)
        go_wp2_with fail
        go_roundg 2
        case measure => omega
        case rel => exact ⟨1, _, by go_num, by omega, by omega, rfl, ⟨fun _ => E1.out, fun h => absurd h (by omega)⟩⟩
    · have i0 : ∀ w, (Instr.index 47 (.agg #[.int .i64 p, .int .i64 q]) (.int .i64 1)).run Try.prog w = .ok (.int .i64 q) w := fun _ => by kernel_rfl
      have y0 := C0.out.said hq hk
      have y1 := C0.out.told hq hj hk
      cases e : gs T q j k
      · have b1 : (told T q j k == said T q k) = true := by simpa [gs] using e
        have E1 : Hid (G = false) := by rw [HG.out, e]; exact Bool.and_false _
        clear HG HS e
        generalize told T q j k = v1 at *
        generalize said T q k = v0 at *
        go_wp2_with fail
        go_quiet (fail)
        go_wp2_with fail
        go_ret
        exact ⟨by rw [E1.out]; rfl, ⟨B1.out.os, B1.out.tape, B1.out.output, B1.out.size, B1.out.block⟩⟩
      · have b1 : (told T q j k == said T q k) = false := by simpa [gs] using e
        have E1 : Hid (gs T q j k = true) := e
        clear e
        generalize told T q j k = v1 at y1 b1
        generalize said T q k = v0 at y0 b1
        go_wp2_with fail
        go_quiet (fail)
        go_wp2_with fail
        go_roundg 1
        case measure => omega
        case rel => exact ⟨2, _, by go_num, by omega, by omega, rfl, ⟨fun _ => HS.out.1 (by omega), fun _ => E1.out⟩⟩
    · have E1 : Hid (G = true) := by rw [HG.out, HS.out.1 (by omega), HS.out.2 (by omega)]; rfl
      go_wp2_with fail
      go_ret
      exact ⟨by rw [E1.out]; rfl, ⟨B1.out.os, B1.out.tape, B1.out.output, B1.out.size, B1.out.block⟩⟩

/-- whether lane j is odd to lane k -/
def od (T : Nat → Int) (k j : Nat) : Bool := !(decide (j = k)) && gb T j k
theorem gains_all (T : Nat → Int) (j k : Nat) (hj : j < 4) (hk : k < 4) (h : j ≠ k) (w : World) : Calls Try.prog 16 #[.agg (tk T), .int .i64 j, .int .i64 k] w fun e w' => e = .returned (.bool (od T k j)) ∧ Below w.heap.size w w' := by
  have e : od T k j = (gs T (oth1 j k) j k && gs T (oth2 j k) j k) := by simp [od, gb, h]
  rw [e]
  exact gains_any T j k _ _ hj hk (oth_lt j k).1 (oth_lt j k).2 w (others_any j k hj hk h)

/-- so far -/
def odV (T : Nat → Int) (k q : Nat) : Nat → Value := fun j => .bool (if j < q then od T k j else false)
theorem odV_next (T : Nat → Int) (k q : Nat) : ∀ i, i < 4 → (if i = q then (.bool (od T k q)) else odV T k q i) = odV T k (q + 1) i := fun i hi => by
  unfold odV
  by_cases e : i = q
  · subst e; rw [if_pos rfl, if_pos (by omega)]
  · rw [if_neg e]
    by_cases e2 : i < q
    · rw [if_pos e2, if_pos (by omega)]
    · rw [if_neg e2, if_neg (by omega)]

set_option maxHeartbeats 1000000 in
theorem odd_bad (T : Nat → Int) (k : Int) (hk : k < 0 ∨ 4 ≤ k) (w : World) : Calls Try.prog 8 #[.agg (tk T), .int .i64 k] w fun e w' => e = .returned (.tuple #[.agg #[.bool false, .bool false, .bool false, .bool false], .int .i64 1]) ∧ Below w.heap.size w w' := by
  go_enter Try.func8, Try.ntmps8
  go_wp2_with fail
  refine (isLane_no k hk _).mono ?_
  rintro e w1 ⟨rfl, rfl⟩
  go_wp2_with fail
  go_returns
  exact ⟨rfl, by go_grown⟩

set_option maxHeartbeats 2000000 in
theorem odd_any (T : Nat → Int) (k : Nat) (hk : k < 4) (w : World) : Calls Try.prog 8 #[.agg (tk T), .int .i64 k] w fun e w' => e = .returned (.tuple #[.agg #[.bool (od T k 0), .bool (od T k 1), .bool (od T k 2), .bool (od T k 3)], .int .i64 0]) ∧ Below w.heap.size w w' := by
  have V0 : Hid (Vs w w.heap.size (w.heap.size + 1) (w.heap.size + 1 + 1) T (fun _ => .bool false) (.bool false) (((w.alloc (.cells (tk T) 26)).alloc (.cells #[.bool false, .bool false, .bool false, .bool false] 32)).alloc (.cells #[.bool false, .bool false, .bool false, .bool false] 32))) := vs_new w T _ _ _ _
  go_enter Try.func8, Try.ntmps8
  go_wp2_with fail
  refine (isLane_yes k hk _).mono ?_
  rintro e w1 ⟨rfl, rfl⟩
  go_wp2_with fail
  go_loopg [12] 5 (fun g u wr => ∃ q : Nat, u = .int .i64 q ∧ 4 - q < g ∧ q ≤ 4 ∧ Hid (Vs w w.heap.size (w.heap.size + 1) (w.heap.size + 1 + 1) T (odV T k q) (.bool false) wr))
  case atStart => exact ⟨0, rfl, by omega, by omega, ⟨V0.out.tb, V0.out.rs, V0.out.vi.as fun j hj => by simp [odV], V0.out.bel, V0.out.low⟩⟩
  case round =>
    obtain ⟨q, rfl, hg, hq, HV⟩ := hrel
    clear V0
    by_cases hlt : q < 4
    · have z1 : (q : Int) < 4 := by omega
      by_cases hqk : q = k
      · have e0 : ((q : Int) != (k : Int)) = false := by simp; omega
        have eo : od T k q = false := by simp [od, hqk]
        have y0 := HV.out.vi.cell q hlt
        have y1 := HV.out.vi.froz q hlt
        generalize odV T k q q = yv at y0
        have Hn : Hid (Vs w w.heap.size (w.heap.size + 1) (w.heap.size + 1 + 1) T (odV T k (q + 1)) (.bool false) (wr.setCell ⟨w.heap.size + 1 + 1, q, none⟩ (.bool false))) := by
          have h3 := HV.out.set hlt (odV_next T k q)
          rw [eo] at h3
          exact h3
        clear eo hqk
        go_wp2_with fail
        go_roundg (4 - (q + 1) + 1)
        case measure => omega
        case rel => exact ⟨q + 1, by go_num, by omega, by omega, Hn⟩
      · have e0 : ((q : Int) != (k : Int)) = true := by simp; omega
        go_wp2_with (refine wpList_load_talk_if _ rfl (by first | rfl | go_simp) _ rfl T (by exact HV.out.tb) ?_)
        refine (gains_all T q k hlt hk hqk _).mono ?_
        rintro e w2 ⟨rfl, hb⟩
        have HV2 : Hid (Vs w w.heap.size (w.heap.size + 1) (w.heap.size + 1 + 1) T (odV T k q) (.bool false) w2) := HV.out.step hb
        clear hb HV
        have y0 := HV2.out.vi.cell q hlt
        have y1 := HV2.out.vi.froz q hlt
        generalize odV T k q q = yv at y0
        have Hn : Hid (Vs w w.heap.size (w.heap.size + 1) (w.heap.size + 1 + 1) T (odV T k (q + 1)) (.bool false) (w2.setCell ⟨w.heap.size + 1 + 1, q, none⟩ (.bool (od T k q)))) := HV2.out.set hlt (odV_next T k q)
        generalize od T k q = m at *
        go_wp2_with fail
        go_roundg (4 - (q + 1) + 1)
        case measure => omega
        case rel => exact ⟨q + 1, by go_num, by omega, by omega, Hn⟩
    · have z1 : ¬ (q : Int) < 4 := by omega
      obtain rfl : q = 4 := by omega
      have y0 := HV.out.vi.cell 0 (by omega)
      have y1 := HV.out.vi.cell 1 (by omega)
      have y2 := HV.out.vi.cell 2 (by omega)
      have y3 := HV.out.vi.cell 3 (by omega)
      have g0 := HV.out.rs.cell 0 (by omega)
      have g1 := HV.out.rs.cell 1 (by omega)
      have g2 := HV.out.rs.cell 2 (by omega)
      have g3 := HV.out.rs.cell 3 (by omega)
      have f0 := HV.out.rs.froz 0 (by omega)
      have f1 := HV.out.rs.froz 1 (by omega)
      have f2 := HV.out.rs.froz 2 (by omega)
      have f3 := HV.out.rs.froz 3 (by omega)
      replace y0 : wr.cell? ⟨w.heap.size + 1 + 1, 0, none⟩ = some (.bool (od T k 0)) := y0
      replace y1 : wr.cell? ⟨w.heap.size + 1 + 1, 1, none⟩ = some (.bool (od T k 1)) := y1
      replace y2 : wr.cell? ⟨w.heap.size + 1 + 1, 2, none⟩ = some (.bool (od T k 2)) := y2
      replace y3 : wr.cell? ⟨w.heap.size + 1 + 1, 3, none⟩ = some (.bool (od T k 3)) := y3
      go_wp2_with fail
      obtain ⟨w3, hw3, e0, e1, e2, e3, hB⟩ := HV.out.rs.put4 (.bool (od T k 0)) (.bool (od T k 1)) (.bool (od T k 2)) (.bool (od T k 3))
      rw [hw3]
      refine bodyPost_ret (by simp [results, Try.results8, go_sem, e0, e1, e2, e3]; try rfl) rfl ?_
      exact ⟨rfl, hB _ _ HV.out.bel HV.out.low.1⟩

end Go.Proofs.Ytokfdapocnmafaa
