/-
  The library's sort at numbers of 64 bits: a range turned round; the heap.
-/
import Derived.Test.YtdnjipikggehmaaSrt
namespace Go.Proofs.Ytdnjipikggehmaa
open Go.RowKit

set_option maxHeartbeats 4000000 in
set_option maxRecDepth 100000 in
theorem rev_any (N : Nat) (w0 : World) (blk off n c a b : Nat) (d : Array Int) (w : World) (h : Cur N w0 blk off n d w) (hab : a < b) (hb : b ≤ n) (hn : n ≤ 1048576) :
    Calls Try.prog 29 #[.slice (some ⟨blk, off, none⟩) n c, .int .i64 a, .int .i64 b] w fun e w' =>
      e = .returned (.tuple #[]) ∧ ∃ d', Cur N w0 blk off n d' w' ∧ Sort.PermIn a b d d' := by
  go_enter Try.func29, Try.ntmps29
  go_wp2
  go_loopw [6, 7] (fun s t wr => ∃ (i j : Nat) (dk : Array Int), s = .int .i64 i ∧ t = .int .i64 j ∧ a ≤ i ∧ j < b ∧ Cur N w0 blk off n dk wr ∧ Hid (Sort.PermIn a b d dk)) (fun s t _ => (intOf t - intOf s).toNat)
  case atStart => exact ⟨a, b - 1, d, rfl, by congr 1; omega, by omega, by omega, h, Sort.permIn_refl _ _ _⟩
  case round =>
    obtain ⟨i, j, dk, rfl, rfl, hai, hjb, hC, hP⟩ := hrel
    by_cases hlt : i < j
    · have z1 : (i : Int) < (j : Int) := by omega
      have z2 : (i : Int) < (n : Int) := by omega
      have z3 : (j : Int) < (n : Int) := by omega
      obtain ⟨G, hG, hcell, hfroz⟩ := hC.fam
      have HG : Hid (∀ t, G t = dk[t]!) := hG
      clear hG
      go_wp2_with fail
      go_region
      go_wp2
      go_roundw
      case rel => exact ⟨i + 1, j - 1, Sort.swp dk i j, by go_num, by congr 1; omega, by omega, by omega, (hC.drewN 1).swap (by omega) (by omega) (HG.out _) (HG.out _), Sort.permIn_trans _ _ _ _ _ hP.out (Sort.swp_permIn dk a b i j (by omega) (by omega) (by omega) (by omega) (by rw [hC.size]; omega))⟩
      case measure => simp [intOf]; omega
    · have z1 : ¬ (i : Int) < (j : Int) := by omega
      go_wp2_with fail
      go_end0
      exact ⟨rfl, dk, hC, hP.out⟩

/-- the child of 'root' that is the greater one -/
def Child (hi F root : Nat) (d : Array Int) (c : Nat) : Prop :=
  2 * root + 2 < hi ∧ Sort.ltInt d[F + (2 * root + 1)]! d[F + (2 * root + 2)]! = true ∧ c = 2 * root + 2 ∨
  2 * root + 1 < hi ∧ (2 * root + 2 < hi → Sort.ltInt d[F + (2 * root + 1)]! d[F + (2 * root + 2)]! = false) ∧ c = 2 * root + 1
theorem sift_none {hi F root : Nat} {d : Array Int} (h : hi ≤ 2 * root + 1) : Sort.siftDown Sort.ltInt hi F root d = d := by rw [Sort.siftDown, dif_pos h]
theorem sift_stop {hi F root c : Nat} {d : Array Int} (h : Child hi F root d c) (hl : Sort.ltInt d[F + root]! d[F + c]! = false) : Sort.siftDown Sort.ltInt hi F root d = d := by
  have e : F + (2 * root + 1) + 1 = F + (2 * root + 2) := by omega
  rcases h with ⟨h1, h2, rfl⟩ | ⟨h1, h2, rfl⟩
  · rw [Sort.siftDown, dif_neg (by omega), e, if_pos (by simp [h2]; omega), if_pos (by simp [hl])]
  · rw [Sort.siftDown, dif_neg (by omega), e, if_neg (by intro k; simp only [Bool.and_eq_true, decide_eq_true_eq] at k; rw [h2 (by omega)] at k; exact absurd k.2 (by decide)), if_pos (by simp [hl])]
theorem sift_go {hi F root c : Nat} {d : Array Int} (h : Child hi F root d c) (hl : Sort.ltInt d[F + root]! d[F + c]! = true) : Sort.siftDown Sort.ltInt hi F root d = Sort.siftDown Sort.ltInt hi F c (Sort.swp d (F + root) (F + c)) := by
  have e : F + (2 * root + 1) + 1 = F + (2 * root + 2) := by omega
  rcases h with ⟨h1, h2, rfl⟩ | ⟨h1, h2, rfl⟩
  · rw [Sort.siftDown, dif_neg (by omega), e, if_pos (by simp [h2]; omega), if_neg (by simp [hl]), dif_pos h1]
  · rw [Sort.siftDown, dif_neg (by omega), e, if_neg (by intro k; simp only [Bool.and_eq_true, decide_eq_true_eq] at k; rw [h2 (by omega)] at k; exact absurd k.2 (by decide)), if_neg (by simp [hl])]

set_option maxHeartbeats 8000000 in
set_option maxRecDepth 100000 in
theorem sift_any (N : Nat) (w0 : World) (blk off n c lo hi F : Nat) (d : Array Int) (w : World) (h : Cur N w0 blk off n d w) (hlo : lo ≤ hi) (hb : F + hi ≤ n) (hn : n ≤ 1048576) :
    Calls Try.prog 36 #[.slice (some ⟨blk, off, none⟩) n c, .int .i64 lo, .int .i64 hi, .int .i64 F] w fun e w' =>
      e = .returned (.tuple #[]) ∧ Cur N w0 blk off n (Sort.siftDown Sort.ltInt hi F lo d) w' := by
  go_enter Try.func36, Try.ntmps36
  go_wp2
  go_loopw [8] (fun s wr => ∃ (r : Nat) (dk : Array Int), s = .int .i64 r ∧ r ≤ hi ∧ Cur N w0 blk off n dk wr ∧ Hid (Sort.siftDown Sort.ltInt hi F r dk = Sort.siftDown Sort.ltInt hi F lo d)) (fun s _ => hi - (intOf s).toNat)
  case atStart => exact ⟨lo, d, rfl, hlo, h, rfl⟩
  case round =>
    obtain ⟨r, dk, rfl, hr, hC, hS⟩ := hrel
    by_cases h0 : hi ≤ 2 * r + 1
    · have z0 : (hi : Int) ≤ 2 * (r : Int) + 1 := by omega
      go_wp2_with fail
      go_end0
      refine ⟨rfl, ?_⟩
      rw [← hS.out, sift_none h0]
      exact hC
    · have z0 : ¬ (hi : Int) ≤ 2 * (r : Int) + 1 := by omega
      obtain ⟨G, hG, hcell, hfroz⟩ := hC.fam
      have HG : Hid (∀ t, G t = dk[t]!) := hG
      clear hG
      by_cases h1 : 2 * r + 2 < hi
      · have z1 : 2 * (r : Int) + 1 + 1 < (hi : Int) := by omega
        by_cases hl : Sort.ltInt (G (F + 2 * r + 1)) (G (F + 2 * r + 2)) = true
        · skip
          go_wp2_with fail
          go_quiet ((go_at_call 31; exact (less_any _ _ _).mono fun _ _ h => ⟨h.1, _, h.2⟩))
          go_wp2_with fail
          revert nq
          intro nq1
          have hC2 := hC.drewN nq1
          have hcell2 : ∀ t, t < n → (wr.drewN nq1).cell? ⟨blk, off + t, none⟩ = some (.int .i64 (G t)) := hcell
          have hfroz2 : ∀ t, t < n → (wr.drewN nq1).frozen? ⟨blk, off + t, none⟩ = false := hfroz
          clear hcell hfroz hC
          generalize wr.drewN nq1 = wr2 at hC2 hcell2 hfroz2 ⊢
          have hch : Child hi F r dk (2 * r + 2) := Or.inl ⟨h1, by rw [← HG.out, ← HG.out]; exact hl, rfl⟩
          have HC : Hid (Child hi F r dk (2 * r + 2)) := hch
          clear hch
          by_cases hl2 : Sort.ltInt (G (F + r)) (G (F + 2 * r + 2)) = true
          · go_quiet ((go_at_call 31; exact (less_any _ _ _).mono fun _ _ h => ⟨h.1, _, h.2⟩))
            go_wp2_with fail
            have hC3 := hC2.drewN nq
            have hcell3 : ∀ t, t < n → (wr2.drewN nq).cell? ⟨blk, off + t, none⟩ = some (.int .i64 (G t)) := hcell2
            have hfroz3 : ∀ t, t < n → (wr2.drewN nq).frozen? ⟨blk, off + t, none⟩ = false := hfroz2
            clear hcell2 hfroz2 hC2
            generalize wr2.drewN nq = wr3 at hC3 hcell3 hfroz3 ⊢
            go_region
            go_wp2
            go_roundw
            case rel => exact ⟨2 * r + 2, Sort.swp dk (F + r) (F + (2 * r + 2)), by congr 1 <;> omega, by omega, (hC3.drewN 1).swap (by omega) (by omega) (HG.out _) (HG.out _), by
              show _ = _
              rw [← hS.out, sift_go HC.out (by rw [← HG.out, ← HG.out]; exact hl2)]⟩
            case measure => simp [intOf]; omega
          · have hl3 : Sort.ltInt (G (F + r)) (G (F + 2 * r + 2)) = false := by simpa using hl2
            clear hl2
            go_quiet ((go_at_call 31; exact (less_any _ _ _).mono fun _ _ h => ⟨h.1, _, h.2⟩))
            go_wp2_with fail
            (try simp only [Exit.inBlock, Exit.then])
            refine bodyPost_ret (results_none rfl _ _ _) rfl ⟨rfl, ?_⟩
            rw [← hS.out, sift_stop HC.out (by rw [← HG.out, ← HG.out]; exact hl3)]
            exact hC2.drewN nq
        · have hl0 : Sort.ltInt (G (F + 2 * r + 1)) (G (F + 2 * r + 2)) = false := by simpa using hl
          clear hl
          go_wp2_with fail
          go_quiet ((go_at_call 31; exact (less_any _ _ _).mono fun _ _ h => ⟨h.1, _, h.2⟩))
          go_wp2_with fail
          revert nq
          intro nq1
          have hC2 := hC.drewN nq1
          have hcell2 : ∀ t, t < n → (wr.drewN nq1).cell? ⟨blk, off + t, none⟩ = some (.int .i64 (G t)) := hcell
          have hfroz2 : ∀ t, t < n → (wr.drewN nq1).frozen? ⟨blk, off + t, none⟩ = false := hfroz
          clear hcell hfroz hC
          generalize wr.drewN nq1 = wr2 at hC2 hcell2 hfroz2 ⊢
          have hch : Child hi F r dk (2 * r + 1) := Or.inr ⟨by omega, fun _ => by rw [← HG.out, ← HG.out]; exact hl0, rfl⟩
          have HC : Hid (Child hi F r dk (2 * r + 1)) := hch
          clear hch
          by_cases hl2 : Sort.ltInt (G (F + r)) (G (F + 2 * r + 1)) = true
          · go_quiet ((go_at_call 31; exact (less_any _ _ _).mono fun _ _ h => ⟨h.1, _, h.2⟩))
            go_wp2_with fail
            have hC3 := hC2.drewN nq
            have hcell3 : ∀ t, t < n → (wr2.drewN nq).cell? ⟨blk, off + t, none⟩ = some (.int .i64 (G t)) := hcell2
            have hfroz3 : ∀ t, t < n → (wr2.drewN nq).frozen? ⟨blk, off + t, none⟩ = false := hfroz2
            clear hcell2 hfroz2 hC2
            generalize wr2.drewN nq = wr3 at hC3 hcell3 hfroz3 ⊢
            go_region
            go_wp2
            go_roundw
            case rel => exact ⟨2 * r + 1, Sort.swp dk (F + r) (F + (2 * r + 1)), by congr 1 <;> omega, by omega, (hC3.drewN 1).swap (by omega) (by omega) (HG.out _) (HG.out _), by
              show _ = _
              rw [← hS.out, sift_go HC.out (by rw [← HG.out, ← HG.out]; exact hl2)]⟩
            case measure => simp [intOf]; omega
          · have hl3 : Sort.ltInt (G (F + r)) (G (F + 2 * r + 1)) = false := by simpa using hl2
            clear hl2
            go_quiet ((go_at_call 31; exact (less_any _ _ _).mono fun _ _ h => ⟨h.1, _, h.2⟩))
            go_wp2_with fail
            (try simp only [Exit.inBlock, Exit.then])
            refine bodyPost_ret (results_none rfl _ _ _) rfl ⟨rfl, ?_⟩
            rw [← hS.out, sift_stop HC.out (by rw [← HG.out, ← HG.out]; exact hl3)]
            exact hC2.drewN nq
      · have z1 : decide (2 * (r : Int) + 1 + 1 < (hi : Int)) = false := decide_eq_false (by omega)
        go_wp2_with fail
        go_quiet ((go_at_call 31; exact (less_any _ _ _).mono fun _ _ h => ⟨h.1, _, h.2⟩))
        go_wp2_with fail
        revert nq
        intro nq1
        have hC2 := hC.drewN nq1
        have hcell2 : ∀ t, t < n → (wr.drewN nq1).cell? ⟨blk, off + t, none⟩ = some (.int .i64 (G t)) := hcell
        have hfroz2 : ∀ t, t < n → (wr.drewN nq1).frozen? ⟨blk, off + t, none⟩ = false := hfroz
        clear hcell hfroz hC
        generalize wr.drewN nq1 = wr2 at hC2 hcell2 hfroz2 ⊢
        have hch : Child hi F r dk (2 * r + 1) := Or.inr ⟨by omega, fun q => absurd q h1, rfl⟩
        have HC : Hid (Child hi F r dk (2 * r + 1)) := hch
        clear hch
        by_cases hl2 : Sort.ltInt (G (F + r)) (G (F + 2 * r + 1)) = true
        · go_quiet ((go_at_call 31; exact (less_any _ _ _).mono fun _ _ h => ⟨h.1, _, h.2⟩))
          go_wp2_with fail
          have hC3 := hC2.drewN nq
          have hcell3 : ∀ t, t < n → (wr2.drewN nq).cell? ⟨blk, off + t, none⟩ = some (.int .i64 (G t)) := hcell2
          have hfroz3 : ∀ t, t < n → (wr2.drewN nq).frozen? ⟨blk, off + t, none⟩ = false := hfroz2
          clear hcell2 hfroz2 hC2
          generalize wr2.drewN nq = wr3 at hC3 hcell3 hfroz3 ⊢
          go_region
          go_wp2
          go_roundw
          case rel => exact ⟨2 * r + 1, Sort.swp dk (F + r) (F + (2 * r + 1)), by congr 1 <;> omega, by omega, (hC3.drewN 1).swap (by omega) (by omega) (HG.out _) (HG.out _), by
            show _ = _
            rw [← hS.out, sift_go HC.out (by rw [← HG.out, ← HG.out]; exact hl2)]⟩
          case measure => simp [intOf]; omega
        · have hl3 : Sort.ltInt (G (F + r)) (G (F + 2 * r + 1)) = false := by simpa using hl2
          clear hl2
          go_quiet ((go_at_call 31; exact (less_any _ _ _).mono fun _ _ h => ⟨h.1, _, h.2⟩))
          go_wp2_with fail
          (try simp only [Exit.inBlock, Exit.then])
          refine bodyPost_ret (results_none rfl _ _ _) rfl ⟨rfl, ?_⟩
          rw [← hS.out, sift_stop HC.out (by rw [← HG.out, ← HG.out]; exact hl3)]
          exact hC2.drewN nq

end Go.Proofs.Ytdnjipikggehmaa
