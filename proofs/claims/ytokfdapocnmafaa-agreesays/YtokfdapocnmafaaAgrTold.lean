/-
  What four lanes say of whom one may lie, the walk: steadkeep.talk.
-/
import Derived.Test.YtokfdapocnmafaaAgrTalk
namespace Go.Proofs.Ytokfdapocnmafaa
open Go.RowKit
set_option linter.unusedVariables false

/-- what is said and told: the numbers v, the liar L (or none), what it says of itself (s) and of the others (D) -/
structure Tk (v s D : Nat → Int) (L : Int) (G : Nat → Int) : Prop where
  said : ∀ i j, i < 4 → j < 4 → G (i * 4 + j) = if (i : Int) = L ∧ j ≠ i then s j else v i
  told : ∀ i j k, i < 4 → j < 4 → k < 4 → G (16 + i * 16 + j * 4 + k) = if (j : Int) = L then D (i * 4 + k) else G (i * 4 + j)
/-- as far as q it is what it will be -/
def Upto (F G : Nat → Int) (q : Nat) : Prop := ∀ p, p < q → F p = G p
def upd (F : Nat → Int) (p : Nat) (x : Int) : Nat → Int := fun j => if j = p then x else F j
theorem Upto.next {F G : Nat → Int} {q : Nat} (h : Upto F G q) {x : Int} (hx : x = G q) : Upto (upd F q x) G (q + 1) := fun p hp => by
  unfold upd
  by_cases e : p = q
  · rw [if_pos e, hx, e]
  · rw [if_neg e]; exact h p (by omega)
theorem Upto.keep {F G : Nat → Int} {q : Nat} (h : Upto F G q) (x : Int) : Upto (upd F q x) G q := fun p hp => by
  unfold upd
  rw [if_neg (by omega)]; exact h p hp

theorem tk_as {F G : Nat → Int} (h : Upto F G 80) : tk F = tk G := by
  unfold tk
  congr 1
  apply List.map_congr_left
  intro j hj
  rw [h j (List.mem_range.1 hj)]
theorem results_talk {fn : Func} {p : Tmp} (h : fn.results = #[.cell p 26]) (tmps : Array Value) (w : World) (b : Nat) (T : Nat → Int) (hp : tmps.getD p undef = .pointer (some ⟨b, 0, none⟩)) (hT : TB w b T) :
    (results fn tmps).run Try.prog w = .ok (.agg (tk T)) w := by
  have hl : (loadVar 26 ⟨b, 0, none⟩).run Try.prog w = .ok (.agg (tk T)) w := by
    have := hT.load
    simpa only [Instr.loadAt, Instr.sureAddr, Sem.run_bind, Sem.run_pure, Result.andThen_ok] using this
  have hp' : tmps[p]?.getD undef = .pointer (some ⟨b, 0, none⟩) := by simpa using hp
  simp [results, h, hp', asAddr, hl]

set_option maxHeartbeats 4000000 in
set_option maxRecDepth 100000 in
theorem talk_any (v s D G : Nat → Int) (L : Int) (hG : Tk v s D L G) (w : World) : Calls Try.prog 11 #[.agg #[.int .i32 (v 0), .int .i32 (v 1), .int .i32 (v 2), .int .i32 (v 3)], .int .i64 L, .agg #[.int .i32 (s 0), .int .i32 (s 1), .int .i32 (s 2), .int .i32 (s 3)], .agg (t16 D)] w fun e w' => e = .returned (.agg (tk G)) ∧ Below w.heap.size w w' := by
  have T0 : Hid (Tw w v s D (fun _ => 0) (((((w.alloc (.cells #[.int .i32 (v 0), .int .i32 (v 1), .int .i32 (v 2), .int .i32 (v 3)] 22)).alloc (.cells #[.int .i32 (s 0), .int .i32 (s 1), .int .i32 (s 2), .int .i32 (s 3)] 22)).alloc (.cells (t16 D) 23)).alloc (.cells (tk fun _ => 0) 26)).alloc (.cells (tk fun _ => 0) 26))) := tw_new w v s D _ _ _ _ _
  have HG : Hid (Tk v s D L G) := hG
  have hz := zero_talk
  clear hG
  go_enter Try.func11, Try.ntmps11
  go_wp2_with fail
  clear hz
  go_loopg [15] 5 (fun g u wr => ∃ i : Nat, u = .int .i64 i ∧ 4 - i < g ∧ i ≤ 4 ∧ ∃ F, Hid (Tw w v s D F wr) ∧ Hid (Upto F G (i * 4)))
  case atStart => exact ⟨0, rfl, by omega, by omega, _, T0, fun p hp => absurd hp (by omega)⟩
  case round =>
    obtain ⟨i, rfl, hg, hi, F, HT, HU⟩ := hrel
    clear T0
    by_cases hlt : i < 4
    · have z1 : (i : Int) < 4 := by omega
      go_wp2_with fail
      go_loopg [18] 5 (fun g u wr2 => ∃ j : Nat, u = .int .i64 j ∧ 4 - j < g ∧ j ≤ 4 ∧ ∃ F, Hid (Tw w v s D F wr2) ∧ Hid (Upto F G (i * 4 + j)))
      case atStart => exact ⟨0, rfl, by omega, by omega, F, HT, HU⟩
      case round =>
        clear HT HU
        obtain ⟨j, rfl, hg2, hj, F, HT, HU⟩ := hrel
        by_cases hlt2 : j < 4
        · have z2 : (j : Int) < 4 := by omega
          have y0 := HT.out.bv.cell i hlt
          have y1 := HT.out.tb.cell (i * 4 + j) (by omega)
          have y2 := HT.out.tb.froz (i * 4 + j) (by omega)
          go_wp2_with fail
          go_region
          obtain ⟨W, hW⟩ : ∃ W, W = (wr.setCell ⟨w.heap.size + 1 + 1 + 1 + 1, i * 4 + j, none⟩ (.int .i32 (v i))).drew := ⟨_, rfl⟩
          rw [← hW]
          have H1 : Hid (Tw w v s D (upd F (i * 4 + j) (v i)) W) := by rw [hW]; exact (HT.out.set (by omega) (fun _ => rfl)).drew
          clear hW y0 y1 y2
          cases q1 : (i : Int) == L
          · have e1 : v i = G (i * 4 + j) := by
              rw [HG.out.said i j hlt hlt2, if_neg]
              rintro ⟨h, _⟩
              rw [h] at q1
              simp at q1
            have U1 : Hid (Upto (upd F (i * 4 + j) (v i)) G (i * 4 + (j + 1))) := HU.out.next e1
            clear e1
            go_wp2_with fail
            go_roundg (4 - (j + 1) + 1)
            case measure => omega
            case rel => exact ⟨j + 1, by go_num, by omega, by omega, _, H1, U1⟩
          · by_cases hji : j = i
            · have q2 : ((j : Int) != (i : Int)) = false := by simp; omega
              have e1 : v i = G (i * 4 + j) := by
                rw [HG.out.said i j hlt hlt2, if_neg]
                rintro ⟨_, h⟩
                exact h hji
              have U1 : Hid (Upto (upd F (i * 4 + j) (v i)) G (i * 4 + (j + 1))) := HU.out.next e1
              clear e1 hji
              go_wp2_with fail
              go_roundg (4 - (j + 1) + 1)
              case measure => omega
              case rel => exact ⟨j + 1, by go_num, by omega, by omega, _, H1, U1⟩
            · have q2 : ((j : Int) != (i : Int)) = true := by simp; omega
              have e1 : s j = G (i * 4 + j) := by
                rw [HG.out.said i j hlt hlt2, if_pos]
                exact ⟨by simpa using q1, hji⟩
              have U1 : Hid (Upto (upd (upd F (i * 4 + j) (v i)) (i * 4 + j) (s j)) G (i * 4 + (j + 1))) := (HU.out.keep (v i)).next e1
              clear e1 hji
              have y0 := H1.out.bs.cell j hlt2
              have y1 := H1.out.tb.cell (i * 4 + j) (by omega)
              have y2 := H1.out.tb.froz (i * 4 + j) (by omega)
              go_wp2_with fail
              go_region
              obtain ⟨W2, hW⟩ : ∃ W2, W2 = (W.setCell ⟨w.heap.size + 1 + 1 + 1 + 1, i * 4 + j, none⟩ (.int .i32 (s j))).drew := ⟨_, rfl⟩
              rw [← hW]
              have H2 : Hid (Tw w v s D (upd (upd F (i * 4 + j) (v i)) (i * 4 + j) (s j)) W2) := by rw [hW]; exact (H1.out.set (by omega) (fun _ => rfl)).drew
              clear hW y0 y1 y2
              go_wp2_with fail
              go_roundg (4 - (j + 1) + 1)
              case measure => omega
              case rel => exact ⟨j + 1, by go_num, by omega, by omega, _, H2, U1⟩
        · have z2 : ¬ (j : Int) < 4 := by omega
          obtain rfl : j = 4 := by omega
          go_wp2_with fail
          go_roundg (4 - (i + 1) + 1)
          case measure => omega
          case rel => exact ⟨i + 1, by go_num, by omega, by omega, F, HT, fun p hp => HU.out p (by omega)⟩
    · have z1 : ¬ (i : Int) < 4 := by omega
      obtain rfl : i = 4 := by omega
      go_wp2_with fail
      go_loopg [47] 5 (fun g u wr => ∃ i : Nat, u = .int .i64 i ∧ 4 - i < g ∧ i ≤ 4 ∧ ∃ F, Hid (Tw w v s D F wr) ∧ Hid (Upto F G (16 + i * 16)))
      case atStart => exact ⟨0, rfl, by omega, by omega, _, HT, HU⟩
      case round =>
        clear HT HU hlt z1 hg hi
        obtain ⟨i, rfl, hg, hi, F, HT, HU⟩ := hrel
        by_cases hlt : i < 4
        · have z1 : (i : Int) < 4 := by omega
          go_wp2_with fail
          go_loopg [50] 5 (fun g u wr2 => ∃ j : Nat, u = .int .i64 j ∧ 4 - j < g ∧ j ≤ 4 ∧ ∃ F, Hid (Tw w v s D F wr2) ∧ Hid (Upto F G (16 + i * 16 + j * 4)))
          case atStart => exact ⟨0, rfl, by omega, by omega, F, HT, HU⟩
          case round =>
            clear HT HU
            obtain ⟨j, rfl, hg2, hj, F, HT, HU⟩ := hrel
            by_cases hlt2 : j < 4
            · have z2 : (j : Int) < 4 := by omega
              go_wp2_with fail
              go_loopg [53] 5 (fun g u wr3 => ∃ k : Nat, u = .int .i64 k ∧ 4 - k < g ∧ k ≤ 4 ∧ ∃ F, Hid (Tw w v s D F wr3) ∧ Hid (Upto F G (16 + i * 16 + j * 4 + k)))
              case atStart => exact ⟨0, rfl, by omega, by omega, F, HT, HU⟩
              case round =>
                clear HT HU
                obtain ⟨k, rfl, hg3, hk, F, HT, HU⟩ := hrel
                by_cases hlt3 : k < 4
                · have z3 : (k : Int) < 4 := by omega
                  have y0 := HT.out.tb.cell (i * 4 + j) (by omega)
                  have y1 := HT.out.tb.cell (16 + i * 16 + j * 4 + k) (by omega)
                  have y2 := HT.out.tb.froz (16 + i * 16 + j * 4 + k) (by omega)
                  have yG : F (i * 4 + j) = G (i * 4 + j) := HU.out _ (by omega)
                  simp only [yG] at y0
                  clear yG
                  go_wp2_with fail
                  go_region
                  obtain ⟨W, hW⟩ : ∃ W, W = (wr.setCell ⟨w.heap.size + 1 + 1 + 1 + 1, 16 + i * 16 + j * 4 + k, none⟩ (.int .i32 (G (i * 4 + j)))).drew := ⟨_, rfl⟩
                  rw [← hW]
                  have H1 : Hid (Tw w v s D (upd F (16 + i * 16 + j * 4 + k) (G (i * 4 + j))) W) := by rw [hW]; exact (HT.out.set (by omega) (fun _ => rfl)).drew
                  clear hW y0 y1 y2
                  cases q1 : (j : Int) == L
                  · have e1 : G (i * 4 + j) = G (16 + i * 16 + j * 4 + k) := by
                      rw [HG.out.told i j k hlt hlt2 hlt3, if_neg]
                      intro h
                      rw [h] at q1
                      simp at q1
                    have U1 : Hid (Upto (upd F (16 + i * 16 + j * 4 + k) (G (i * 4 + j))) G (16 + i * 16 + j * 4 + (k + 1))) := HU.out.next e1
                    clear e1
                    go_wp2_with fail
                    go_roundg (4 - (k + 1) + 1)
                    case measure => omega
                    case rel => exact ⟨k + 1, by go_num, by omega, by omega, _, H1, U1⟩
                  · have e1 : D (i * 4 + k) = G (16 + i * 16 + j * 4 + k) := by
                      rw [HG.out.told i j k hlt hlt2 hlt3, if_pos]
                      simpa using q1
                    have U1 : Hid (Upto (upd (upd F (16 + i * 16 + j * 4 + k) (G (i * 4 + j))) (16 + i * 16 + j * 4 + k) (D (i * 4 + k))) G (16 + i * 16 + j * 4 + (k + 1))) := (HU.out.keep _).next e1
                    clear e1
                    have y0 := H1.out.bd.cell (i * 4 + k) (by omega)
                    have y1 := H1.out.tb.cell (16 + i * 16 + j * 4 + k) (by omega)
                    have y2 := H1.out.tb.froz (16 + i * 16 + j * 4 + k) (by omega)
                    go_wp2_with fail
                    go_region
                    obtain ⟨W2, hW⟩ : ∃ W2, W2 = (W.setCell ⟨w.heap.size + 1 + 1 + 1 + 1, 16 + i * 16 + j * 4 + k, none⟩ (.int .i32 (D (i * 4 + k)))).drew := ⟨_, rfl⟩
                    rw [← hW]
                    have H2 : Hid (Tw w v s D (upd (upd F (16 + i * 16 + j * 4 + k) (G (i * 4 + j))) (16 + i * 16 + j * 4 + k) (D (i * 4 + k))) W2) := by rw [hW]; exact (H1.out.set (by omega) (fun _ => rfl)).drew
                    clear hW y0 y1 y2
                    go_wp2_with fail
                    go_roundg (4 - (k + 1) + 1)
                    case measure => omega
                    case rel => exact ⟨k + 1, by go_num, by omega, by omega, _, H2, U1⟩
                · have z3 : ¬ (k : Int) < 4 := by omega
                  obtain rfl : k = 4 := by omega
                  go_wp2_with fail
                  go_roundg (4 - (j + 1) + 1)
                  case measure => omega
                  case rel => exact ⟨j + 1, by go_num, by omega, by omega, F, HT, fun p hp => HU.out p (by omega)⟩
            · have z2 : ¬ (j : Int) < 4 := by omega
              obtain rfl : j = 4 := by omega
              go_wp2_with fail
              go_roundg (4 - (i + 1) + 1)
              case measure => omega
              case rel => exact ⟨i + 1, by go_num, by omega, by omega, F, HT, fun p hp => HU.out p (by omega)⟩
        · have z1 : ¬ (i : Int) < 4 := by omega
          obtain rfl : i = 4 := by omega
          go_wp2_with (first | (refine wpList_load_talk rfl _ rfl _ rfl F (by exact HT.out.tb) ?_) | (refine wpList_store_talk rfl _ _ rfl _ rfl F rfl _ (by exact HT.out.rs) ?_))
          have e1 : tk F = tk G := tk_as HU.out
          refine bodyPost_ret (results_talk (T := F) (b := w.heap.size + 1 + 1 + 1) rfl _ _ rfl (Blk.setAll HT.out.rs F)) rfl ?_
          exact ⟨by rw [e1], below_setCells (by omega) _ _ _ HT.out.bel⟩

end Go.Proofs.Ytokfdapocnmafaa
