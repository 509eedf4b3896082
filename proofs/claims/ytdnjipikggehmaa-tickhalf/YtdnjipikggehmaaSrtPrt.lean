/-
  The library's sort at numbers of 64 bits: parting a range at a pivot into what is less and what isn't.
-/
import Derived.Test.YtdnjipikggehmaaSrtPart
namespace Go.Proofs.Ytdnjipikggehmaa
open Go.RowKit

theorem Part.finish {p : Int} {a b : Nat} {d dk : Array Int} {i j : Nat} (h : Part p p a b d dk i j) (hij : j < i) :
    a ≤ j ∧ j < b ∧ Sort.PermIn a b d (Sort.swp dk j a) ∧ (∀ t, a ≤ t → t < j → (Sort.swp dk j a)[t]! < (Sort.swp dk j a)[j]!) ∧ (∀ t, j < t → t < b → (Sort.swp dk j a)[j]! ≤ (Sort.swp dk j a)[t]!) := by
  have h1 := h.ai
  have h2 := h.ij
  have h3 := h.jb
  have h4 := h.bs
  have ej : (Sort.swp dk j a)[j]! = p := by
    by_cases e : j = a
    · subst e; rw [Sort.swp_right dk j j (by omega)]; exact h.pv
    · rw [Sort.swp_left dk j a (by omega) e]; exact h.pv
  refine ⟨by omega, h3, Sort.permIn_trans _ _ _ _ _ h.perm (Sort.swp_permIn dk a b j a (by omega) (by omega) (by omega) (by omega) (by omega)), fun t k1 k2 => ?_, fun t k1 k2 => ?_⟩
  · rw [ej]
    by_cases e : t = a
    · subst e; rw [Sort.swp_right dk j t (by omega)]; exact h.up j (by omega) (by omega)
    · rw [Sort.swp_other dk j a t (by omega) e]; exact h.up t (by omega) (by omega)
  · rw [ej, Sort.swp_other dk j a t (by omega) (by omega)]
    exact h.down t k1 k2

set_option maxHeartbeats 8000000 in
set_option maxRecDepth 100000 in
theorem prt_any (N : Nat) (w0 : World) (blk off n c a b pv : Nat) (d : Array Int) (w : World) (h : Cur N w0 blk off n d w) (hap : a ≤ pv) (hpb : pv < b) (hb : b ≤ n) (hn : n ≤ 1048576) :
    Calls Try.prog 33 #[.slice (some ⟨blk, off, none⟩) n c, .int .i64 a, .int .i64 b, .int .i64 pv] w fun e w' =>
      ∃ (m : Nat) (ap : Bool) (d' : Array Int), e = .returned (.tuple #[.int .i64 m, .bool ap]) ∧ Cur N w0 blk off n d' w' ∧ a ≤ m ∧ m < b ∧ Sort.PermIn a b d d' ∧ (∀ t, a ≤ t → t < m → d'[t]! < d'[m]!) ∧ (∀ t, m < t → t < b → d'[m]! ≤ d'[t]!) := by
  have hs := h.size
  have HS : Hid (d.size = n) := hs
  clear hs
  go_enter Try.func33, Try.ntmps33
  go_upto_region 1 with (fail)
  go_cut [] (fun wc => ∃ d1, Cur N w0 blk off n d1 wc ∧ Hid (d1[a]! = d[pv]!) ∧ Hid (Sort.PermIn a b d d1))
  case first =>
    obtain ⟨G, hG, hcell, hfroz⟩ := h.fam
    have HG : Hid (∀ t, G t = d[t]!) := hG
    clear hG
    have z1 : (a : Int) < (n : Int) := by omega
    have z2 : (pv : Int) < (n : Int) := by omega
    by_cases e : a = pv
    · subst e
      go_region
      all_goals (try go_wp2)
      go_meet
      exact ⟨Sort.swp d a a, (h.drewN 1).swap (by omega) (by omega) (HG.out _) (HG.out _), Sort.swp_right d a a (by rw [HS.out]; omega), Sort.swp_permIn d a b a a (by omega) (by omega) (by omega) (by omega) (by rw [HS.out]; omega)⟩
    · go_region
      all_goals (try go_wp2)
      go_meet
      exact ⟨Sort.swp d a pv, (h.drewN 1).swap (by omega) (by omega) (HG.out _) (HG.out _), Sort.swp_left d a pv (by rw [HS.out]; omega) e, Sort.swp_permIn d a b a pv (by omega) (by omega) (by omega) (by omega) (by rw [HS.out]; omega)⟩
  case rest =>
    obtain ⟨d1, hC, hpv, hP⟩ := hcut
    obtain ⟨j0, hj0⟩ : ∃ j0 : Nat, b = j0 + 1 := ⟨b - 1, by omega⟩
    obtain ⟨i0, hi0⟩ : ∃ i0 : Nat, i0 = a + 1 := ⟨a + 1, rfl⟩
    have hT0 : Part d[pv]! d[pv]! a b d d1 i0 j0 := by
      have := part_start (q := d[pv]!) (p := d[pv]!) (a := a) (b := b) (d := d) (dk := d1) (by omega) (by rw [hC.size]; omega) hP.out hpv.out
      rw [← hi0, show b - 1 = j0 by omega] at this
      exact this
    have zb : (b : Int) - 1 = (j0 : Int) := by omega
    have za : (a : Int) + 1 = (i0 : Int) := by omega
    have HJ : Hid (b = j0 + 1) := hj0
    have HI : Hid (i0 = a + 1) := hi0
    have y1 : j0 < n := by omega
    have y2 : a < i0 := by omega
    have y3 : i0 ≤ j0 + 1 := by omega
    clear hj0 hi0
    go_wp2_with fail
    go_loopg [10] (j0 + 1) (fun g s wr => ∃ i2 : Nat, s = .int .i64 i2 ∧ i0 ≤ i2 ∧ j0 + 1 - i2 ≤ g ∧ Cur N w0 blk off n d1 wr ∧ Part d[pv]! d[pv]! a b d d1 i2 j0)
    case atStart => exact ⟨i0, by congr 1 <;> omega, by omega, by omega, hC, hT0⟩
    case round =>
      obtain ⟨i2, rfl, hi2, hg2, hC2, hT2⟩ := hrel
      have r1 := hT2.ai
      have r2 := hT2.ij
      have r3 := hT2.jb
      obtain ⟨G, hG, hcell, hfroz⟩ := hC2.fam
      have HG : Hid (∀ t, G t = d1[t]!) := hG
      clear hG
      have z1 : (a : Int) < (n : Int) := by omega
      by_cases hij : i2 ≤ j0
      · have z2 : (i2 : Int) ≤ ((j0 : Nat) : Int) := by omega
        have z3 : (i2 : Int) < (n : Int) := by omega
        by_cases hl : G i2 < G a
        · have hl2 := lt_true hl
          have HL : Hid (G i2 < G a) := hl
          clear hl
          go_wp2_with fail
          go_quiet ((go_at_call 31; exact (less_any _ _ _).mono fun _ _ h => ⟨h.1, _, h.2⟩))
          go_wp2_with fail
          go_roundg (j0 + 1 - (i2 + 1))
          case measure => omega
          case rel => exact ⟨i2 + 1, by go_num, by omega, by omega, hC2.drewN _, hT2.stepUp hij (by rw [← HG.out]; have := hT2.pv; rw [← HG.out] at this; have := HL.out; omega)⟩
        · have hl2 : Sort.ltInt (G i2) (G a) = false := lt_false (by omega)
          have hup : Hid (i2 ≤ j0 → d[pv]! ≤ d1[i2]!) := fun _ => by rw [← HG.out]; have := hT2.pv; rw [← HG.out] at this; omega
          clear hl
          go_wp2_with fail
          go_quiet ((go_at_call 31; exact (less_any _ _ _).mono fun _ _ h => ⟨h.1, _, h.2⟩))
          go_wp2_with fail
          clear hcell hfroz HG hl2
          go_loopg [11] (j0 + 1) (fun g s wr => ∃ j2 : Nat, s = .int .i64 j2 ∧ j2 ≤ j0 ∧ j2 + 1 - i2 ≤ g ∧ Cur N w0 blk off n d1 wr ∧ Part d[pv]! d[pv]! a b d d1 i2 j2)
          case atStart => exact ⟨j0, rfl, by omega, by omega, hC2.drewN _, hT2⟩
          case round =>
            obtain ⟨j2, rfl, hj2, hg3, hC3, hT3⟩ := hrel
            have s1 := hT3.ij
            have s2 := hT3.jb
            obtain ⟨G, hG, hcell, hfroz⟩ := hC3.fam
            have HG : Hid (∀ t, G t = d1[t]!) := hG
            clear hG
            by_cases hij2 : i2 ≤ j2
            · have z2 : (i2 : Int) ≤ (j2 : Int) := by omega
              have z3 : (j2 : Int) < (n : Int) := by omega
              by_cases hl : G j2 < G a
              · have hl2 := lt_true hl
                have HL : Hid (G j2 < G a) := hl
                clear hl
                have hlt : i2 < j2 := by
                  rcases Nat.lt_or_ge i2 j2 with k | k
                  · exact k
                  · exfalso
                    have e : i2 = j2 := by omega
                    have := hup.out (by omega)
                    rw [e, ← HG.out] at this
                    have u := hT3.pv
                    rw [← HG.out] at u
                    have := HL.out
                    omega
                have z4 : ¬ (j2 : Int) < (i2 : Int) := by omega
                have z6 : decide (j2 < i2) = false := decide_eq_false (by omega)
                have z5 : (i2 : Int) < (n : Int) := by omega
                go_wp2_with fail
                go_quiet ((go_at_call 31; exact (less_any _ _ _).mono fun _ _ h => ⟨h.1, _, h.2⟩))
                go_wp2_with fail
                have hC4 := hC3.drewN nq
                have hcellN : ∀ t, t < n → (wr.drewN nq).cell? ⟨blk, off + t, none⟩ = some (.int .i64 (G t)) := hcell
                have hfrozN : ∀ t, t < n → (wr.drewN nq).frozen? ⟨blk, off + t, none⟩ = false := hfroz
                clear hcell hfroz hC3
                generalize wr.drewN nq = wrN at hC4 hcellN hfrozN ⊢
                have hT4 := hT3.stepSwap hlt (hup.out (by omega)) (by rw [← HG.out]; have := hT3.pv; rw [← HG.out] at this; have := HL.out; omega)
                go_region
                go_wp2_with fail
                clear hl2 z2 z3 z4 z5
                go_loopg [10, 11] b (fun g s t wr => ∃ (i j : Nat) (dk : Array Int), s = .int .i64 i ∧ t = .int .i64 j ∧ j + 1 - i ≤ g ∧ Cur N w0 blk off n dk wr ∧ Part d[pv]! d[pv]! a b d dk i j)
                case atStart => exact ⟨i2 + 1, j2 - 1, Sort.swp d1 i2 j2, by go_num, by congr 1; omega, by omega, (hC4.drewN 1).swap (by omega) (by omega) (HG.out _) (HG.out _), hT4⟩
                case round =>
                  clear hC4 hT4 hcellN hfrozN HG
                  obtain ⟨i, j, dk, rfl, rfl, hg, hC, hT⟩ := hrel
                  have q1 := hT.ai
                  have q2 := hT.ij
                  have q3 := hT.jb
                  go_wp2_with fail
                  go_loopg [10] (j + 1) (fun g s wr => ∃ i2 : Nat, s = .int .i64 i2 ∧ i ≤ i2 ∧ j + 1 - i2 ≤ g ∧ Cur N w0 blk off n dk wr ∧ Part d[pv]! d[pv]! a b d dk i2 j)
                  case atStart => exact ⟨i, rfl, by omega, by omega, hC, hT⟩
                  case round =>
                    obtain ⟨i2, rfl, hi2, hg2, hC2, hT2⟩ := hrel
                    have r1 := hT2.ai
                    have r2 := hT2.ij
                    have r3 := hT2.jb
                    obtain ⟨G, hG, hcell, hfroz⟩ := hC2.fam
                    have HG : Hid (∀ t, G t = dk[t]!) := hG
                    clear hG
                    have z1 : (a : Int) < (n : Int) := by omega
                    by_cases hij : i2 ≤ j
                    · have z2 : (i2 : Int) ≤ ((j : Nat) : Int) := by omega
                      have z3 : (i2 : Int) < (n : Int) := by omega
                      by_cases hl : G i2 < G a
                      · have hl2 := lt_true hl
                        have HL : Hid (G i2 < G a) := hl
                        clear hl
                        go_wp2_with fail
                        go_quiet ((go_at_call 31; exact (less_any _ _ _).mono fun _ _ h => ⟨h.1, _, h.2⟩))
                        go_wp2_with fail
                        go_roundg (j + 1 - (i2 + 1))
                        case measure => omega
                        case rel => exact ⟨i2 + 1, by go_num, by omega, by omega, hC2.drewN _, hT2.stepUp hij (by rw [← HG.out]; have := hT2.pv; rw [← HG.out] at this; have := HL.out; omega)⟩
                      · have hl2 : Sort.ltInt (G i2) (G a) = false := lt_false (by omega)
                        have hup : Hid (i2 ≤ j → d[pv]! ≤ dk[i2]!) := fun _ => by rw [← HG.out]; have := hT2.pv; rw [← HG.out] at this; omega
                        clear hl
                        go_wp2_with fail
                        go_quiet ((go_at_call 31; exact (less_any _ _ _).mono fun _ _ h => ⟨h.1, _, h.2⟩))
                        go_wp2_with fail
                        clear hcell hfroz HG hl2
                        go_loopg [11] (j + 1) (fun g s wr => ∃ j2 : Nat, s = .int .i64 j2 ∧ j2 ≤ j ∧ j2 + 1 - i2 ≤ g ∧ Cur N w0 blk off n dk wr ∧ Part d[pv]! d[pv]! a b d dk i2 j2)
                        case atStart => exact ⟨j, rfl, by omega, by omega, hC2.drewN _, hT2⟩
                        case round =>
                          obtain ⟨j2, rfl, hj2, hg3, hC3, hT3⟩ := hrel
                          have s1 := hT3.ij
                          have s2 := hT3.jb
                          obtain ⟨G, hG, hcell, hfroz⟩ := hC3.fam
                          have HG : Hid (∀ t, G t = dk[t]!) := hG
                          clear hG
                          by_cases hij2 : i2 ≤ j2
                          · have z2 : (i2 : Int) ≤ (j2 : Int) := by omega
                            have z3 : (j2 : Int) < (n : Int) := by omega
                            by_cases hl : G j2 < G a
                            · have hl2 := lt_true hl
                              have HL : Hid (G j2 < G a) := hl
                              clear hl
                              have hlt : i2 < j2 := by
                                rcases Nat.lt_or_ge i2 j2 with k | k
                                · exact k
                                · exfalso
                                  have e : i2 = j2 := by omega
                                  have := hup.out (by omega)
                                  rw [e, ← HG.out] at this
                                  have u := hT3.pv
                                  rw [← HG.out] at u
                                  have := HL.out
                                  omega
                              have z4 : ¬ (j2 : Int) < (i2 : Int) := by omega
                              have z6 : decide (j2 < i2) = false := decide_eq_false (by omega)
                              have z5 : (i2 : Int) < (n : Int) := by omega
                              go_wp2_with fail
                              go_quiet ((go_at_call 31; exact (less_any _ _ _).mono fun _ _ h => ⟨h.1, _, h.2⟩))
                              go_wp2_with fail
                              have hC4 := hC3.drewN nq
                              have hcellN : ∀ t, t < n → (wr.drewN nq).cell? ⟨blk, off + t, none⟩ = some (.int .i64 (G t)) := hcell
                              have hfrozN : ∀ t, t < n → (wr.drewN nq).frozen? ⟨blk, off + t, none⟩ = false := hfroz
                              clear hcell hfroz hC3
                              generalize wr.drewN nq = wrN at hC4 hcellN hfrozN ⊢
                              have hT4 := hT3.stepSwap hlt (hup.out (by omega)) (by rw [← HG.out]; have := hT3.pv; rw [← HG.out] at this; have := HL.out; omega)
                              go_region
                              go_wp2_with fail
                              go_roundg (j2 - 1 + 1 - (i2 + 1))
                              case measure => omega
                              case rel => exact ⟨i2 + 1, j2 - 1, Sort.swp dk i2 j2, by go_num, by congr 1; omega, by omega, (hC4.drewN 1).swap (by omega) (by omega) (HG.out _) (HG.out _), hT4⟩
                            · have hl2 : Sort.ltInt (G j2) (G a) = false := lt_false (by omega)
                              have HL : Hid (¬ G j2 < G a) := hl
                              clear hl
                              go_wp2_with fail
                              go_quiet ((go_at_call 31; exact (less_any _ _ _).mono fun _ _ h => ⟨h.1, _, h.2⟩))
                              go_wp2_with fail
                              go_roundg (j2 - 1 + 1 - i2)
                              case measure => omega
                              case rel => exact ⟨j2 - 1, by congr 1; omega, by omega, by omega, hC3.drewN _, hT3.stepDown hij2 (by rw [← HG.out]; have := hT3.pv; rw [← HG.out] at this; have := HL.out; omega)⟩
                          · have z2 : decide ((i2 : Int) ≤ (j2 : Int)) = false := decide_eq_false (by omega)
                            have z4 : (j2 : Int) < (i2 : Int) := by omega
                            have z5 : (j2 : Int) < (n : Int) := by omega
                            go_wp2_with fail
                            go_quiet ((go_at_call 31; exact (less_any _ _ _).mono fun _ _ h => ⟨h.1, _, h.2⟩))
                            go_wp2_with fail
                            have hC4 := hC3.drewN nq
                            have hcellN : ∀ t, t < n → (wr.drewN nq).cell? ⟨blk, off + t, none⟩ = some (.int .i64 (G t)) := hcell
                            have hfrozN : ∀ t, t < n → (wr.drewN nq).frozen? ⟨blk, off + t, none⟩ = false := hfroz
                            clear hcell hfroz hC3
                            generalize wr.drewN nq = wrN at hC4 hcellN hfrozN ⊢
                            by_cases eja : j2 = a
                            · subst eja
                              go_region
                              go_wp2_with fail
                              go_ret2
                              exact ⟨j2, false, Sort.swp dk j2 j2, rfl, (hC4.drewN 1).swap (by omega) (by omega) (HG.out _) (HG.out _), hT3.finish (by omega)⟩
                            · skip
                              go_region
                              go_wp2_with fail
                              go_ret2
                              exact ⟨j2, false, Sort.swp dk j2 a, rfl, (hC4.drewN 1).swap (by omega) (by omega) (HG.out _) (HG.out _), hT3.finish (by omega)⟩
                    · have z2 : decide ((i2 : Int) ≤ ((j : Nat) : Int)) = false := decide_eq_false (by omega)
                      go_wp2_with fail
                      go_quiet ((go_at_call 31; exact (less_any _ _ _).mono fun _ _ h => ⟨h.1, _, h.2⟩))
                      go_wp2_with fail
                      clear hcell hfroz HG
                      go_loopg [11] (j + 1) (fun g s wr => ∃ j2 : Nat, s = .int .i64 j2 ∧ j2 ≤ j ∧ j2 + 1 - i2 ≤ g ∧ Cur N w0 blk off n dk wr ∧ Part d[pv]! d[pv]! a b d dk i2 j2)
                      case atStart => exact ⟨j, rfl, by omega, by omega, hC2.drewN _, hT2⟩
                      case round =>
                        obtain ⟨j2, rfl, hj2, hg3, hC3, hT3⟩ := hrel
                        have s1 := hT3.ij
                        have s2 := hT3.jb
                        obtain ⟨G, hG, hcell, hfroz⟩ := hC3.fam
                        have HG : Hid (∀ t, G t = dk[t]!) := hG
                        clear hG
                        by_cases hij2 : i2 ≤ j2
                        · exact absurd hij2 (by omega)
                        · have z2 : decide ((i2 : Int) ≤ (j2 : Int)) = false := decide_eq_false (by omega)
                          have z4 : (j2 : Int) < (i2 : Int) := by omega
                          have z5 : (j2 : Int) < (n : Int) := by omega
                          go_wp2_with fail
                          go_quiet ((go_at_call 31; exact (less_any _ _ _).mono fun _ _ h => ⟨h.1, _, h.2⟩))
                          go_wp2_with fail
                          have hC4 := hC3.drewN nq
                          have hcellN : ∀ t, t < n → (wr.drewN nq).cell? ⟨blk, off + t, none⟩ = some (.int .i64 (G t)) := hcell
                          have hfrozN : ∀ t, t < n → (wr.drewN nq).frozen? ⟨blk, off + t, none⟩ = false := hfroz
                          clear hcell hfroz hC3
                          generalize wr.drewN nq = wrN at hC4 hcellN hfrozN ⊢
                          by_cases eja : j2 = a
                          · subst eja
                            go_region
                            go_wp2_with fail
                            go_ret2
                            exact ⟨j2, false, Sort.swp dk j2 j2, rfl, (hC4.drewN 1).swap (by omega) (by omega) (HG.out _) (HG.out _), hT3.finish (by omega)⟩
                          · skip
                            go_region
                            go_wp2_with fail
                            go_ret2
                            exact ⟨j2, false, Sort.swp dk j2 a, rfl, (hC4.drewN 1).swap (by omega) (by omega) (HG.out _) (HG.out _), hT3.finish (by omega)⟩
              · have hl2 : Sort.ltInt (G j2) (G a) = false := lt_false (by omega)
                have HL : Hid (¬ G j2 < G a) := hl
                clear hl
                go_wp2_with fail
                go_quiet ((go_at_call 31; exact (less_any _ _ _).mono fun _ _ h => ⟨h.1, _, h.2⟩))
                go_wp2_with fail
                go_roundg (j2 - 1 + 1 - i2)
                case measure => omega
                case rel => exact ⟨j2 - 1, by congr 1; omega, by omega, by omega, hC3.drewN _, hT3.stepDown hij2 (by rw [← HG.out]; have := hT3.pv; rw [← HG.out] at this; have := HL.out; omega)⟩
            · have z2 : decide ((i2 : Int) ≤ (j2 : Int)) = false := decide_eq_false (by omega)
              have z4 : (j2 : Int) < (i2 : Int) := by omega
              have z5 : (j2 : Int) < (n : Int) := by omega
              go_wp2_with fail
              go_quiet ((go_at_call 31; exact (less_any _ _ _).mono fun _ _ h => ⟨h.1, _, h.2⟩))
              go_wp2_with fail
              have hC4 := hC3.drewN nq
              have hcellN : ∀ t, t < n → (wr.drewN nq).cell? ⟨blk, off + t, none⟩ = some (.int .i64 (G t)) := hcell
              have hfrozN : ∀ t, t < n → (wr.drewN nq).frozen? ⟨blk, off + t, none⟩ = false := hfroz
              clear hcell hfroz hC3
              generalize wr.drewN nq = wrN at hC4 hcellN hfrozN ⊢
              by_cases eja : j2 = a
              · subst eja
                go_region
                go_wp2_with fail
                go_ret2
                exact ⟨j2, true, Sort.swp d1 j2 j2, rfl, (hC4.drewN 1).swap (by omega) (by omega) (HG.out _) (HG.out _), hT3.finish (by omega)⟩
              · skip
                go_region
                go_wp2_with fail
                go_ret2
                exact ⟨j2, true, Sort.swp d1 j2 a, rfl, (hC4.drewN 1).swap (by omega) (by omega) (HG.out _) (HG.out _), hT3.finish (by omega)⟩
      · have z2 : decide ((i2 : Int) ≤ ((j0 : Nat) : Int)) = false := decide_eq_false (by omega)
        go_wp2_with fail
        go_quiet ((go_at_call 31; exact (less_any _ _ _).mono fun _ _ h => ⟨h.1, _, h.2⟩))
        go_wp2_with fail
        clear hcell hfroz HG
        go_loopg [11] (j0 + 1) (fun g s wr => ∃ j2 : Nat, s = .int .i64 j2 ∧ j2 ≤ j0 ∧ j2 + 1 - i2 ≤ g ∧ Cur N w0 blk off n d1 wr ∧ Part d[pv]! d[pv]! a b d d1 i2 j2)
        case atStart => exact ⟨j0, rfl, by omega, by omega, hC2.drewN _, hT2⟩
        case round =>
          obtain ⟨j2, rfl, hj2, hg3, hC3, hT3⟩ := hrel
          have s1 := hT3.ij
          have s2 := hT3.jb
          obtain ⟨G, hG, hcell, hfroz⟩ := hC3.fam
          have HG : Hid (∀ t, G t = d1[t]!) := hG
          clear hG
          by_cases hij2 : i2 ≤ j2
          · exact absurd hij2 (by omega)
          · have z2 : decide ((i2 : Int) ≤ (j2 : Int)) = false := decide_eq_false (by omega)
            have z4 : (j2 : Int) < (i2 : Int) := by omega
            have z5 : (j2 : Int) < (n : Int) := by omega
            go_wp2_with fail
            go_quiet ((go_at_call 31; exact (less_any _ _ _).mono fun _ _ h => ⟨h.1, _, h.2⟩))
            go_wp2_with fail
            have hC4 := hC3.drewN nq
            have hcellN : ∀ t, t < n → (wr.drewN nq).cell? ⟨blk, off + t, none⟩ = some (.int .i64 (G t)) := hcell
            have hfrozN : ∀ t, t < n → (wr.drewN nq).frozen? ⟨blk, off + t, none⟩ = false := hfroz
            clear hcell hfroz hC3
            generalize wr.drewN nq = wrN at hC4 hcellN hfrozN ⊢
            by_cases eja : j2 = a
            · subst eja
              go_region
              go_wp2_with fail
              go_ret2
              exact ⟨j2, true, Sort.swp d1 j2 j2, rfl, (hC4.drewN 1).swap (by omega) (by omega) (HG.out _) (HG.out _), hT3.finish (by omega)⟩
            · skip
              go_region
              go_wp2_with fail
              go_ret2
              exact ⟨j2, true, Sort.swp d1 j2 a, rfl, (hC4.drewN 1).swap (by omega) (by omega) (HG.out _) (HG.out _), hT3.finish (by omega)⟩

end Go.Proofs.Ytdnjipikggehmaa
