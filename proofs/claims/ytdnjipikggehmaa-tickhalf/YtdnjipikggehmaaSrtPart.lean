/-
  The library's sort at numbers of 64 bits: parting a range at a pivot.
-/
import Derived.Test.YtdnjipikggehmaaSrt
import Derived.Deep.DeepCutAuto
namespace Go.Proofs.Ytdnjipikggehmaa
open Go.RowKit

/-- a range between its two scans: below i what is less than q, above j what isn't; at its beginning the pivot -/
structure Part (q p : Int) (a b : Nat) (d dk : Array Int) (i j : Nat) : Prop where
  ai : a < i
  ij : i ≤ j + 1
  jb : j < b
  bs : b ≤ dk.size
  perm : Sort.PermIn a b d dk
  pv : dk[a]! = p
  up : ∀ t, a < t → t < i → dk[t]! < q
  down : ∀ t, j < t → t < b → q ≤ dk[t]!

theorem Part.stepUp {q p : Int} {a b : Nat} {d dk : Array Int} {i j : Nat} (h : Part q p a b d dk i j) (hij : i ≤ j) (hl : dk[i]! < q) : Part q p a b d dk (i + 1) j :=
  ⟨by have := h.ai; omega, by omega, h.jb, h.bs, h.perm, h.pv, fun t h1 h2 => by
    by_cases e : t = i
    · subst e; exact hl
    · exact h.up t h1 (by omega), h.down⟩
theorem Part.stepDown {q p : Int} {a b : Nat} {d dk : Array Int} {i j : Nat} (h : Part q p a b d dk i j) (hij : i ≤ j) (hl : q ≤ dk[j]!) : Part q p a b d dk i (j - 1) :=
  ⟨h.ai, by omega, by have := h.jb; omega, h.bs, h.perm, h.pv, h.up, fun t h1 h2 => by
    by_cases e : t = j
    · subst e; exact hl
    · exact h.down t (by omega) h2⟩
theorem Part.stepSwap {q p : Int} {a b : Nat} {d dk : Array Int} {i j : Nat} (h : Part q p a b d dk i j) (hij : i < j) (hi : q ≤ dk[i]!) (hj : dk[j]! < q) : Part q p a b d (Sort.swp dk i j) (i + 1) (j - 1) := by
  have h1 := h.ai
  have h2 := h.jb
  have h3 := h.bs
  refine ⟨by omega, by omega, by omega, by rw [Sort.size_swp]; exact h3, Sort.permIn_trans _ _ _ _ _ h.perm (Sort.swp_permIn dk a b i j (by omega) (by omega) (by omega) (by omega) (by omega)), ?_, fun t k1 k2 => ?_, fun t k1 k2 => ?_⟩
  · rw [Sort.swp_other dk i j a (by omega) (by omega)]; exact h.pv
  · by_cases e : t = i
    · subst e; rw [Sort.swp_left dk t j (by omega) (by omega)]; exact hj
    · rw [Sort.swp_other dk i j t e (by omega)]; exact h.up t k1 (by omega)
  · by_cases e : t = j
    · subst e; rw [Sort.swp_right dk i t (by omega)]; exact hi
    · rw [Sort.swp_other dk i j t (by omega) e]; exact h.down t (by omega) k2
theorem part_start {q p : Int} {a b : Nat} {d dk : Array Int} (hab : a < b) (hb : b ≤ dk.size) (hp : Sort.PermIn a b d dk) (e : dk[a]! = p) : Part q p a b d dk (a + 1) (b - 1) :=
  ⟨by omega, by omega, by omega, hb, hp, e, fun t h1 h2 => absurd h1 (by omega), fun t h1 h2 => absurd h1 (by omega)⟩
theorem lt_true {x y : Int} (h : x < y) : Sort.ltInt x y = true := decide_eq_true h
theorem lt_false {x y : Int} (h : y ≤ x) : Sort.ltInt x y = false := decide_eq_false (by omega)

set_option maxHeartbeats 4000000 in
set_option maxRecDepth 100000 in
theorem peq_any (N : Nat) (w0 : World) (blk off n c a b pv : Nat) (d : Array Int) (w : World) (h : Cur N w0 blk off n d w) (hap : a ≤ pv) (hpb : pv < b) (hb : b ≤ n) (hn : n ≤ 1048576) :
    Calls Try.prog 32 #[.slice (some ⟨blk, off, none⟩) n c, .int .i64 a, .int .i64 b, .int .i64 pv] w fun e w' =>
      ∃ (m : Nat) (d' : Array Int), e = .returned (.int .i64 m) ∧ Cur N w0 blk off n d' w' ∧ a < m ∧ m ≤ b ∧ Sort.PermIn a b d d' ∧ (∀ t, a ≤ t → t < m → d'[t]! ≤ d[pv]!) ∧ (∀ t, m ≤ t → t < b → d[pv]! < d'[t]!) := by
  have hs := h.size
  have HS : Hid (d.size = n) := hs
  clear hs
  go_enter Try.func32, Try.ntmps32
  go_upto_region 1 with (fail)
  go_cut [] (fun wc => ∃ d1, Cur N w0 blk off n d1 wc ∧ Hid (d1[a]! = d[pv]!) ∧ Hid (Sort.PermIn a b d d1))
  case first =>
    obtain ⟨G, hG, hcell, hfroz⟩ := h.fam
    have HG : Hid (∀ t, G t = d[t]!) := hG
    clear hG
    have z1 : (a : Int) < (n : Int) := by omega
    have z2 : (pv : Int) < (n : Int) := by omega
    by_cases e : a = pv
    · subst e
      go_region
      all_goals (try go_wp2)
      go_meet
      exact ⟨Sort.swp d a a, (h.drewN 1).swap (by omega) (by omega) (HG.out _) (HG.out _), Sort.swp_right d a a (by rw [HS.out]; omega), Sort.swp_permIn d a b a a (by omega) (by omega) (by omega) (by omega) (by rw [HS.out]; omega)⟩
    · go_region
      all_goals (try go_wp2)
      go_meet
      exact ⟨Sort.swp d a pv, (h.drewN 1).swap (by omega) (by omega) (HG.out _) (HG.out _), Sort.swp_left d a pv (by rw [HS.out]; omega) e, Sort.swp_permIn d a b a pv (by omega) (by omega) (by omega) (by omega) (by rw [HS.out]; omega)⟩
  case rest =>
    obtain ⟨d1, hC, hpv, hP⟩ := hcut
    go_wp2_with fail
    go_loopg [9, 10] b (fun g s t wr => ∃ (i j : Nat) (dk : Array Int), s = .int .i64 i ∧ t = .int .i64 j ∧ j + 1 - i ≤ g ∧ Cur N w0 blk off n dk wr ∧ Part (d[pv]! + 1) d[pv]! a b d dk i j)
    case atStart => exact ⟨a + 1, b - 1, d1, by go_num, by congr 1; omega, by omega, hC, part_start (by omega) (by rw [hC.size]; omega) hP.out hpv.out⟩
    case round =>
      obtain ⟨i, j, dk, rfl, rfl, hg, hC, hT⟩ := hrel
      have q1 := hT.ai
      have q2 := hT.ij
      have q3 := hT.jb
      go_wp2_with fail
      go_loopg [9] (j + 1) (fun g s wr => ∃ i2 : Nat, s = .int .i64 i2 ∧ i ≤ i2 ∧ j + 1 - i2 ≤ g ∧ Cur N w0 blk off n dk wr ∧ Part (d[pv]! + 1) d[pv]! a b d dk i2 j)
      case atStart => exact ⟨i, rfl, by omega, by omega, hC, hT⟩
      case round =>
        obtain ⟨i2, rfl, hi2, hg2, hC2, hT2⟩ := hrel
        have r1 := hT2.ai
        have r2 := hT2.ij
        obtain ⟨G, hG, hcell, hfroz⟩ := hC2.fam
        have HG : Hid (∀ t, G t = dk[t]!) := hG
        clear hG
        have z1 : (a : Int) < (n : Int) := by omega
        by_cases hij : i2 ≤ j
        · have z2 : (i2 : Int) ≤ (j : Int) := by omega
          have z3 : (i2 : Int) < (n : Int) := by omega
          by_cases hl : G a < G i2
          · have hl2 := lt_true hl
            have hup : Hid (i2 ≤ j → d[pv]! + 1 ≤ dk[i2]!) := fun _ => by rw [← HG.out]; have := hT2.pv; rw [← HG.out] at this; omega
            clear hl
            go_wp2_with fail
            go_quiet ((go_at_call 31; exact (less_any _ _ _).mono fun _ _ h => ⟨h.1, _, h.2⟩))
            go_wp2_with fail
            clear hcell hfroz HG hl2
            go_loopg [10] (j + 1) (fun g s wr => ∃ j2 : Nat, s = .int .i64 j2 ∧ j2 ≤ j ∧ j2 + 1 - i2 ≤ g ∧ Cur N w0 blk off n dk wr ∧ Part (d[pv]! + 1) d[pv]! a b d dk i2 j2)
            case atStart => exact ⟨j, rfl, by omega, by omega, hC2.drewN _, hT2⟩
            case round =>
              obtain ⟨j2, rfl, hj2, hg3, hC3, hT3⟩ := hrel
              have s1 := hT3.ij
              obtain ⟨G, hG, hcell, hfroz⟩ := hC3.fam
              have HG : Hid (∀ t, G t = dk[t]!) := hG
              clear hG
              by_cases hij2 : i2 ≤ j2
              · have z2 : (i2 : Int) ≤ (j2 : Int) := by omega
                have z3 : (j2 : Int) < (n : Int) := by omega
                by_cases hl : G a < G j2
                · have hl2 := lt_true hl
                  have HL : Hid (G a < G j2) := hl
                  clear hl
                  go_wp2_with fail
                  go_quiet ((go_at_call 31; exact (less_any _ _ _).mono fun _ _ h => ⟨h.1, _, h.2⟩))
                  go_wp2_with fail
                  go_roundg (j2 - 1 + 1 - i2)
                  case measure => omega
                  case rel => exact ⟨j2 - 1, by congr 1; omega, by omega, by omega, hC3.drewN _, hT3.stepDown hij2 (by rw [← HG.out]; have := hT3.pv; rw [← HG.out] at this; have := HL.out; omega)⟩
                · have hl2 : Sort.ltInt (G a) (G j2) = false := lt_false (by omega)
                  have HL : Hid (¬ G a < G j2) := hl
                  clear hl
                  have hlt : i2 < j2 := by
                    rcases Nat.lt_or_ge i2 j2 with k | k
                    · exact k
                    · exfalso
                      have e : i2 = j2 := by omega
                      have := hup.out (by omega)
                      rw [e, ← HG.out] at this
                      have u := hT3.pv
                      rw [← HG.out] at u
                      have := HL.out
                      omega
                  have z4 : ¬ (j2 : Int) < (i2 : Int) := by omega
                  have z5 : (i2 : Int) < (n : Int) := by omega
                  go_wp2_with fail
                  go_quiet ((go_at_call 31; exact (less_any _ _ _).mono fun _ _ h => ⟨h.1, _, h.2⟩))
                  go_wp2_with fail
                  have hC4 := hC3.drewN nq
                  have hcell4 : ∀ t, t < n → (wr.drewN nq).cell? ⟨blk, off + t, none⟩ = some (.int .i64 (G t)) := hcell
                  have hfroz4 : ∀ t, t < n → (wr.drewN nq).frozen? ⟨blk, off + t, none⟩ = false := hfroz
                  clear hcell hfroz hC3
                  generalize wr.drewN nq = wr4 at hC4 hcell4 hfroz4 ⊢
                  go_region
                  go_wp2_with fail
                  go_roundg (j2 - 1 + 1 - (i2 + 1))
                  case measure => omega
                  case rel => exact ⟨i2 + 1, j2 - 1, Sort.swp dk i2 j2, by go_num, by congr 1; omega, by omega, (hC4.drewN 1).swap (by omega) (by omega) (HG.out _) (HG.out _), hT3.stepSwap hlt (hup.out (by omega)) (by rw [← HG.out]; have := hT3.pv; rw [← HG.out] at this; have := HL.out; omega)⟩
              · have z2 : decide ((i2 : Int) ≤ (j2 : Int)) = false := decide_eq_false (by omega)
                have z4 : (j2 : Int) < (i2 : Int) := by omega
                go_wp2_with fail
                go_quiet ((go_at_call 31; exact (less_any _ _ _).mono fun _ _ h => ⟨h.1, _, h.2⟩))
                go_wp2_with fail
                go_ret
                exact ⟨i2, dk, rfl, hC3.drewN _, by omega, by omega, hT3.perm, fun t k1 k2 => by
                  by_cases e : t = a
                  · subst e; have := hT3.pv; omega
                  · have := hT3.up t (by omega) k2; omega, fun t k1 k2 => by have := hT3.down t (by omega) k2; omega⟩
          · have hl2 : Sort.ltInt (G a) (G i2) = false := lt_false (by omega)
            have HL : Hid (¬ G a < G i2) := hl
            clear hl
            go_wp2_with fail
            go_quiet ((go_at_call 31; exact (less_any _ _ _).mono fun _ _ h => ⟨h.1, _, h.2⟩))
            go_wp2_with fail
            go_roundg (j + 1 - (i2 + 1))
            case measure => omega
            case rel => exact ⟨i2 + 1, by go_num, by omega, by omega, hC2.drewN _, hT2.stepUp hij (by rw [← HG.out]; have := hT2.pv; rw [← HG.out] at this; have := HL.out; omega)⟩
        · have z2 : decide ((i2 : Int) ≤ (j : Int)) = false := decide_eq_false (by omega)
          go_wp2_with fail
          go_quiet ((go_at_call 31; exact (less_any _ _ _).mono fun _ _ h => ⟨h.1, _, h.2⟩))
          go_wp2_with fail
          clear hcell hfroz HG
          go_loopg [10] (j + 1) (fun g s wr => ∃ j2 : Nat, s = .int .i64 j2 ∧ j2 ≤ j ∧ j2 + 1 - i2 ≤ g ∧ Cur N w0 blk off n dk wr ∧ Part (d[pv]! + 1) d[pv]! a b d dk i2 j2)
          case atStart => exact ⟨j, rfl, by omega, by omega, hC2.drewN _, hT2⟩
          case round =>
            obtain ⟨j2, rfl, hj2, hg3, hC3, hT3⟩ := hrel
            have s1 := hT3.ij
            obtain ⟨G, hG, hcell, hfroz⟩ := hC3.fam
            have HG : Hid (∀ t, G t = dk[t]!) := hG
            clear hG
            by_cases hij2 : i2 ≤ j2
            · exact absurd hij2 (by omega)
            · have z2 : decide ((i2 : Int) ≤ (j2 : Int)) = false := decide_eq_false (by omega)
              have z4 : (j2 : Int) < (i2 : Int) := by omega
              go_wp2_with fail
              go_quiet ((go_at_call 31; exact (less_any _ _ _).mono fun _ _ h => ⟨h.1, _, h.2⟩))
              go_wp2_with fail
              go_ret
              exact ⟨i2, dk, rfl, hC3.drewN _, by omega, by omega, hT3.perm, fun t k1 k2 => by
                by_cases e : t = a
                · subst e; have := hT3.pv; omega
                · have := hT3.up t (by omega) k2; omega, fun t k1 k2 => by have := hT3.down t (by omega) k2; omega⟩

end Go.Proofs.Ytdnjipikggehmaa
