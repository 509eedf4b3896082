/-
  The library's sort at numbers of 64 bits: a range that is nearly sorted.
-/
import Derived.Test.YtdnjipikggehmaaSrtPart
namespace Go.Proofs.Ytdnjipikggehmaa
open Go.RowKit

theorem ins_first {a i : Nat} {d : Array Int} (hai : a < i) (h : Sort.SortedIn Sort.ltInt a i d) : Sort.Ins Sort.ltInt a (i - 1) (i - 1) (Sort.swp d i (i - 1)) :=
  ⟨fun p q h1 h2 h3 h4 h5 => by
    rw [Sort.swp_other d i (i - 1) p (by omega) (by omega), Sort.swp_other d i (i - 1) q (by omega) (by omega)]
    exact h p q h1 h2 (by omega), fun q h1 h2 => absurd h1 (by omega)⟩
theorem ins_step {a j i : Nat} {d : Array Int} (hja : a < j) (h : Sort.Ins Sort.ltInt a j i d) (hl : Sort.ltInt d[j]! d[j - 1]! = true) (hs : j < d.size) : Sort.Ins Sort.ltInt a (j - 1) i (Sort.swp d j (j - 1)) := by
  obtain ⟨k, rfl⟩ : ∃ k, j = k + 1 := ⟨j - 1, by omega⟩
  rw [Nat.add_sub_cancel] at hl ⊢
  exact h.step hl (by omega) hs
theorem ins_stop {a j i : Nat} {d : Array Int} (hi : 0 < i) (h : Sort.Ins Sort.ltInt a j (i - 1) d) (hs : j ≤ a ∨ Sort.ltInt d[j]! d[j - 1]! = false) : Sort.SortedIn Sort.ltInt a i d := by
  have := h.stop Sort.swo_ltInt hs
  rw [show i - 1 + 1 = i by omega] at this
  exact this

set_option maxHeartbeats 8000000 in
set_option maxRecDepth 100000 in
theorem pis_any (N : Nat) (w0 : World) (blk off n c a b : Nat) (d : Array Int) (w : World) (h : Cur N w0 blk off n d w) (hab : a < b) (hb : b ≤ n) (hn : n ≤ 1048576) (hB : Sort.Below Sort.ltInt a b d) :
    Calls Try.prog 30 #[.slice (some ⟨blk, off, none⟩) n c, .int .i64 a, .int .i64 b] w fun e w' =>
      ∃ (r : Bool) (d' : Array Int), e = .returned (.bool r) ∧ Cur N w0 blk off n d' w' ∧ Sort.PermIn a b d d' ∧ (r = true → Sort.SortedIn Sort.ltInt a b d') := by
  have HD : Hid (d.size = n) := h.size
  have HB : Hid (Sort.Below Sort.ltInt a b d) := hB
  clear hB
  go_enter Try.func30, Try.ntmps30
  go_wp2_with fail
  go_loopg [7, 8] 5 (fun g s t wr => ∃ (i k : Nat) (dk : Array Int), s = .int .i64 i ∧ t = .int .i64 k ∧ 5 - k ≤ g ∧ k ≤ 5 ∧ a < i ∧ i ≤ b ∧ Cur N w0 blk off n dk wr ∧ Hid (Sort.PermIn a b d dk) ∧ Hid (Sort.SortedIn Sort.ltInt a i dk))
  case atStart => exact ⟨a + 1, 0, d, by go_num, rfl, by omega, by omega, by omega, by omega, h, Sort.permIn_refl _ _ _, fun p q k1 k2 k3 => absurd k3 (by omega)⟩
  case round =>
    obtain ⟨i, k, dk, rfl, rfl, hg, hk5, hai, hib, hC, hP, hS⟩ := hrel
    by_cases hk : k < 5
    · have zk : (k : Int) < 5 := by omega
      go_wp2_with fail
      go_loopg [7] b (fun g s wr => ∃ i2 : Nat, s = .int .i64 i2 ∧ b - i2 ≤ g ∧ i ≤ i2 ∧ i2 ≤ b ∧ Cur N w0 blk off n dk wr ∧ Hid (Sort.SortedIn Sort.ltInt a i2 dk))
      case atStart => exact ⟨i, rfl, by omega, by omega, by omega, hC, hS⟩
      case round =>
        obtain ⟨i2, rfl, hg2, hii, hi2b, hC2, hS2⟩ := hrel
        obtain ⟨G, hG, hcell, hfroz⟩ := hC2.fam
        have HG : Hid (∀ t, G t = dk[t]!) := hG
        clear hG
        by_cases hlt : i2 < b
        · have y1 : (i2 : Int) < (b : Int) := by omega
          have y2 : (i2 : Int) < (n : Int) := by omega
          have y3 : (i2 : Int) - 1 < (n : Int) := by omega
          by_cases hl : Sort.ltInt (G i2) (G (i2 - 1)) = true
          · have y4 : ¬ (i2 : Int) = (b : Int) := by omega
            by_cases h50 : b - a < 50
            · have y5 : (b : Int) - (a : Int) < 50 := by omega
              go_wp2_with fail
              go_quiet ((go_at_call 31; exact (less_any _ _ _).mono fun _ _ h => ⟨h.1, _, h.2⟩))
              go_wp2_with fail
              go_ret
              exact ⟨false, dk, rfl, hC2.drewN _, hP.out, fun q => absurd q (by decide)⟩
            · have y5 : ¬ (b : Int) - (a : Int) < 50 := by omega
              go_wp2_with fail
              go_quiet ((go_at_call 31; exact (less_any _ _ _).mono fun _ _ h => ⟨h.1, _, h.2⟩))
              go_wp2_with fail
              have zi : (i2 : Int) - 1 < (n : Int) := by omega
              have zi2 : (i2 : Int) < (n : Int) := by omega
              have hC3 := hC2.drewN nq
              have hcellN : ∀ t, t < n → (wr.drewN nq).cell? ⟨blk, off + t, none⟩ = some (.int .i64 (G t)) := hcell
              have hfrozN : ∀ t, t < n → (wr.drewN nq).frozen? ⟨blk, off + t, none⟩ = false := hfroz
              clear hcell hfroz hC2
              generalize wr.drewN nq = wrN at hC3 hcellN hfrozN ⊢
              have hI0 := ins_first (a := a) (i := i2) (d := dk) (by omega) hS2.out
              have hP3 := Sort.permIn_trans _ _ _ _ _ hP.out (Sort.swp_permIn dk a b i2 (i2 - 1) (by omega) (by omega) (by omega) (by omega) (by rw [hC3.size]; omega))
              go_region
              have hC4 := (hC3.drewN 1).swap (i := i2) (j := i2 - 1) (by omega) (by omega) (HG.out _) (HG.out _)
              go_upto_if 61 with fail
              go_cut [] (fun wc => ∃ d3, Cur N w0 blk off n d3 wc ∧ Hid (Sort.PermIn a b d d3) ∧ Hid (Sort.SortedIn Sort.ltInt a i2 d3))
              case first =>
                by_cases h2 : a + 2 ≤ i2
                · have z61 : 2 ≤ (i2 : Int) - (a : Int) := by omega
                  clear hcellN hfrozN HG
                  go_wp2_with fail
                  go_loopg [9] i2 (fun g s wr => ∃ (j : Nat) (d3 : Array Int), s = .int .i64 j ∧ j ≤ g ∧ a ≤ j ∧ j ≤ i2 - 1 ∧ Cur N w0 blk off n d3 wr ∧ Hid (Sort.PermIn a b d d3) ∧ Hid (Sort.Ins Sort.ltInt a j (i2 - 1) d3))
                  case atStart => exact ⟨i2 - 1, _, by congr 1; omega, by omega, by omega, by omega, hC4, hP3, hI0⟩
                  case round =>
                    clear hC3 hC4 hP3 hI0
                    obtain ⟨j, d3, rfl, hjg, haj, hji, hC5, hP5, hI5⟩ := hrel
                    by_cases h1 : 1 ≤ j
                    · have y1 : (1 : Int) ≤ (j : Int) := by omega
                      have y2 : (j : Int) < (n : Int) := by omega
                      have y3 : (j : Int) - 1 < (n : Int) := by omega
                      have hB5 := HB.out.perm (by rw [HD.out]; omega) hP5.out
                      obtain ⟨G, hG, hcell, hfroz⟩ := hC5.fam
                      have HG : Hid (∀ t, G t = d3[t]!) := hG
                      clear hG
                      by_cases hl : Sort.ltInt (G j) (G (j - 1)) = true
                      · have hja : a < j := by
                          rcases Nat.lt_or_ge a j with k | k
                          · exact k
                          · exfalso
                            have e : j = a := by omega
                            rcases hB5 with q | q
                            · omega
                            · have := q a (by omega) (by omega)
                              rw [← HG.out, ← HG.out, ← e, hl] at this
                              exact absurd this (by decide)
                        have hB6 : Hid (Sort.Below Sort.ltInt a b d3) := hB5
                        clear hB5
                        go_wp2_with fail
                        go_quiet ((go_at_call 31; exact (less_any _ _ _).mono fun _ _ h => ⟨h.1, _, h.2⟩))
                        go_wp2_with fail
                        have hC6 := hC5.drewN nq
                        have hcellN : ∀ t, t < n → (wr.drewN nq).cell? ⟨blk, off + t, none⟩ = some (.int .i64 (G t)) := hcell
                        have hfrozN : ∀ t, t < n → (wr.drewN nq).frozen? ⟨blk, off + t, none⟩ = false := hfroz
                        clear hcell hfroz hC5
                        generalize wr.drewN nq = wrN at hC6 hcellN hfrozN ⊢
                        go_region
                        go_wp2_with fail
                        go_roundg (j - 1)
                        case measure => omega
                        case rel => exact ⟨j - 1, Sort.swp d3 j (j - 1), by congr 1; omega, by omega, by omega, by omega, (hC6.drewN 1).swap (by omega) (by omega) (HG.out _) (HG.out _), Sort.permIn_trans _ _ _ _ _ hP5.out (Sort.swp_permIn d3 a b j (j - 1) (by omega) (by omega) (by omega) (by omega) (by rw [hC6.size]; omega)), ins_step hja hI5.out (by rw [← HG.out, ← HG.out]; exact hl) (by rw [hC6.size]; omega)⟩
                      · have hl2 : Sort.ltInt (G j) (G (j - 1)) = false := by simpa using hl
                        clear hl hB5
                        go_wp2_with fail
                        go_quiet ((go_at_call 31; exact (less_any _ _ _).mono fun _ _ h => ⟨h.1, _, h.2⟩))
                        go_wp2_with fail
                        go_meet
                        exact ⟨d3, hC5.drewN _, hP5, ins_stop (by omega) hI5.out (Or.inr (by rw [← HG.out, ← HG.out]; exact hl2))⟩
                    · have y1 : ¬ (1 : Int) ≤ (j : Int) := by omega
                      go_wp2_with fail
                      go_meet
                      exact ⟨d3, hC5, hP5, ins_stop (by omega) hI5.out (Or.inl (by omega))⟩
                · have z61 : ¬ 2 ≤ (i2 : Int) - (a : Int) := by omega
                  go_wp2_with fail
                  go_meet
                  exact ⟨_, hC4, hP3, fun p q k1 k2 k3 => absurd k3 (by omega)⟩
              case rest =>
                clear hC3 hC4 hP3 hI0 hcellN hfrozN HG
                obtain ⟨d3, hC7, hP7, hS7⟩ := hcut
                by_cases h3 : i2 + 2 ≤ b
                · have z98 : 2 ≤ (b : Int) - (i2 : Int) := by omega
                  go_wp2_with fail
                  go_loopg [10] b (fun g s wr => ∃ (j : Nat) (d4 : Array Int), s = .int .i64 j ∧ b - j ≤ g ∧ i2 + 1 ≤ j ∧ j ≤ b ∧ Cur N w0 blk off n d4 wr ∧ Hid (Sort.PermIn a b d d4) ∧ Hid (Sort.SortedIn Sort.ltInt a i2 d4))
                  case atStart => exact ⟨i2 + 1, d3, by go_num, by omega, by omega, by omega, hC7, hP7, hS7⟩
                  case round =>
                    obtain ⟨j, d4, rfl, hjg, hij, hjb, hC8, hP8, hS8⟩ := hrel
                    by_cases h1 : j < b
                    · have y1 : (j : Int) < (b : Int) := by omega
                      have y2 : (j : Int) < (n : Int) := by omega
                      have y3 : (j : Int) - 1 < (n : Int) := by omega
                      obtain ⟨G, hG, hcell, hfroz⟩ := hC8.fam
                      have HG : Hid (∀ t, G t = d4[t]!) := hG
                      clear hG
                      by_cases hl : Sort.ltInt (G j) (G (j - 1)) = true
                      · go_wp2_with fail
                        go_quiet ((go_at_call 31; exact (less_any _ _ _).mono fun _ _ h => ⟨h.1, _, h.2⟩))
                        go_wp2_with fail
                        have hC9 := hC8.drewN nq
                        have hcellN : ∀ t, t < n → (wr.drewN nq).cell? ⟨blk, off + t, none⟩ = some (.int .i64 (G t)) := hcell
                        have hfrozN : ∀ t, t < n → (wr.drewN nq).frozen? ⟨blk, off + t, none⟩ = false := hfroz
                        clear hcell hfroz hC8
                        generalize wr.drewN nq = wrN at hC9 hcellN hfrozN ⊢
                        go_region
                        go_wp2_with fail
                        go_roundg (b - (j + 1))
                        case measure => omega
                        case rel => exact ⟨j + 1, Sort.swp d4 j (j - 1), by go_num, by omega, by omega, by omega, (hC9.drewN 1).swap (by omega) (by omega) (HG.out _) (HG.out _), Sort.permIn_trans _ _ _ _ _ hP8.out (Sort.swp_permIn d4 a b j (j - 1) (by omega) (by omega) (by omega) (by omega) (by rw [hC9.size]; omega)), hS8.out.congr (fun t k1 k2 => Sort.swp_other d4 j (j - 1) t (by omega) (by omega))⟩
                      · have hl2 : Sort.ltInt (G j) (G (j - 1)) = false := by simpa using hl
                        clear hl
                        go_wp2_with fail
                        go_quiet ((go_at_call 31; exact (less_any _ _ _).mono fun _ _ h => ⟨h.1, _, h.2⟩))
                        go_wp2_with fail
                        go_roundg (5 - (k + 1))
                        case measure => omega
                        case rel => exact ⟨i2, k + 1, d4, rfl, by go_num, by omega, by omega, by omega, by omega, hC8.drewN _, hP8, hS8⟩
                    · have y1 : ¬ (j : Int) < (b : Int) := by omega
                      go_wp2_with fail
                      go_roundg (5 - (k + 1))
                      case measure => omega
                      case rel => exact ⟨i2, k + 1, d4, rfl, by go_num, by omega, by omega, by omega, by omega, hC8, hP8, hS8⟩
                · have z98 : ¬ 2 ≤ (b : Int) - (i2 : Int) := by omega
                  go_wp2_with fail
                  go_roundg (5 - (k + 1))
                  case measure => omega
                  case rel => exact ⟨i2, k + 1, d3, rfl, by go_num, by omega, by omega, by omega, by omega, hC7, hP7, hS7⟩
          · have hl2 : Sort.ltInt (G i2) (G (i2 - 1)) = false := by simpa using hl
            clear hl
            go_wp2_with fail
            go_quiet ((go_at_call 31; exact (less_any _ _ _).mono fun _ _ h => ⟨h.1, _, h.2⟩))
            go_wp2_with fail
            go_roundg (b - (i2 + 1))
            case measure => omega
            case rel => exact ⟨i2 + 1, by go_num, by omega, by omega, by omega, hC2.drewN _, hS2.out.snoc Sort.swo_ltInt (by rw [← HG.out, ← HG.out]; exact hl2)⟩
        · have y1 : decide ((i2 : Int) < (b : Int)) = false := decide_eq_false (by omega)
          have e : i2 = b := by omega
          subst e
          go_wp2_with fail
          go_quiet ((go_at_call 31; exact (less_any _ _ _).mono fun _ _ h => ⟨h.1, _, h.2⟩))
          go_wp2_with fail
          go_ret
          exact ⟨true, dk, rfl, hC2.drewN _, hP.out, fun _ => hS2.out⟩
    · have zk : ¬ (k : Int) < 5 := by omega
      go_wp2_with fail
      go_ret
      exact Or.inl ⟨rfl, dk, hC, hP.out⟩

end Go.Proofs.Ytdnjipikggehmaa
