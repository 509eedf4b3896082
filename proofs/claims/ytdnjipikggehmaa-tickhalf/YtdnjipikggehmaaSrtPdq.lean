/-
  The library's sort at numbers of 64 bits: the whole: a row of the call's own is sorted, and nothing else turns.
-/
import Derived.Test.YtdnjipikggehmaaSrtPlain
import Derived.Test.YtdnjipikggehmaaSrtHeap2
import Derived.Test.YtdnjipikggehmaaSrtPrt
import Derived.Test.YtdnjipikggehmaaSrtPis
import Derived.Test.YtdnjipikggehmaaSrtBrk2
namespace Go.Proofs.Ytdnjipikggehmaa
open Go.RowKit
set_option linter.unusedVariables false

/-- whoever sorts a' .. b' of dk has sorted a .. b of d -/
def Suff (a b : Nat) (d : Array Int) (a' b' : Nat) (dk : Array Int) : Prop :=
  ∀ R, Sort.PermIn a' b' dk R → Sort.SortedIn Sort.ltInt a' b' R → Sort.PermIn a b d R ∧ Sort.SortedIn Sort.ltInt a b R
theorem Suff.perm {a b a' b' : Nat} {d dk d1 : Array Int} (h : Suff a b d a' b' dk) (hp : Sort.PermIn a' b' dk d1) : Suff a b d a' b' d1 :=
  fun R p s => h R (Sort.permIn_trans _ _ _ _ _ hp p) s
/-- what a call of the sort does to a range -/
def Done (N : Nat) (w0 : World) (blk off n a b : Nat) (d : Array Int) (e : Ending) (w' : World) : Prop :=
  e = .returned (.tuple #[]) ∧ ∃ d', Cur N w0 blk off n d' w' ∧ Sort.PermIn a b d d' ∧ Sort.SortedIn Sort.ltInt a b d'

set_option maxHeartbeats 16000000 in
set_option maxRecDepth 1000000 in
theorem pdq_any : ∀ (M N : Nat) (w0 : World) (blk off n c a b lim : Nat) (d : Array Int) (w : World), b - a < M → Cur N w0 blk off n d w → a ≤ b → b ≤ n → n ≤ 1048576 → lim ≤ 1000 → Sort.Below Sort.ltInt a b d →
    Calls Try.prog 22 #[.slice (some ⟨blk, off, none⟩) n c, .int .i64 a, .int .i64 b, .int .i64 lim] w (Done N w0 blk off n a b d) := by
  intro M
  induction M with
  | zero => intro _ _ _ _ _ _ _ _ _ _ _ h; exact absurd h (Nat.not_lt_zero _)
  | succ M ih =>
    intro N w0 blk off n c a b lim d w hM h hab hb hn hlim hB
    have HB : Hid (Sort.Below Sort.ltInt a b d) := hB
    clear hB
    go_enter Try.func22, Try.ntmps22
    go_wp2_with fail
    go_loopg [1, 2, 3, 8, 9] (b - a) (fun g s1 s2 s3 s8 s9 wr => ∃ (a1 b1 lm : Nat) (wb wp : Bool) (dk : Array Int), s1 = .int .i64 a1 ∧ s2 = .int .i64 b1 ∧ s3 = .int .i64 lm ∧ s8 = .bool wb ∧ s9 = .bool wp ∧
      a1 ≤ b1 ∧ b1 ≤ n ∧ b1 - a1 ≤ g ∧ b1 - a1 ≤ b - a ∧ lm ≤ 1000 ∧ Cur N w0 blk off n dk wr ∧ Hid (Sort.Below Sort.ltInt a1 b1 dk) ∧ Hid (Suff a b d a1 b1 dk))
    case atStart => exact ⟨a, b, lim, true, true, d, rfl, rfl, rfl, rfl, rfl, hab, hb, Nat.le_refl _, Nat.le_refl _, hlim, h, HB, fun R p s => ⟨p, s⟩⟩
    case round =>
      clear h
      obtain ⟨a1, b1, lm, wb, wp, dk, rfl, rfl, rfl, rfl, rfl, ab1, bn1, hg, hba, hlm, hC, hBe, hSu⟩ := hrel
      have hds := hC.size
      by_cases h12 : b1 - a1 ≤ 12
      · have y1 : (b1 : Int) - (a1 : Int) ≤ 12 := by omega
        have HD : Hid (dk.size = n) := hds
        clear hds
        go_wp2_with fail
        refine (ins_any N w0 blk off n c a1 b1 dk _ hC ab1 bn1 hn).mono ?_
        rintro e w1 ⟨rfl, C1⟩
        go_wp2_with fail
        (try simp only [Exit.inBlock, Exit.then])
        obtain ⟨p1, p2⟩ := Sort.insertionSort_holds Sort.swo_ltInt dk a1 b1 ab1 (by rw [HD.out]; exact bn1)
        obtain ⟨p3, p4⟩ := hSu.out _ p1 p2
        exact bodyPost_ret (results_none rfl _ _ _) rfl ⟨rfl, _, C1, p3, p4⟩
      · have y1 : ¬ (b1 : Int) - (a1 : Int) ≤ 12 := by omega
        by_cases hl0 : lm = 0
        · subst hl0
          have HD : Hid (dk.size = n) := hds
          clear hds
          go_wp2_with fail
          refine (heap_any N w0 blk off n c a1 b1 dk _ hC (by omega) bn1 hn).mono ?_
          rintro e w1 ⟨rfl, C1⟩
          go_wp2_with fail
          (try simp only [Exit.inBlock, Exit.then])
          obtain ⟨p1, p2⟩ := Sort.heapSort_holds Sort.swo_ltInt dk a1 b1 ab1 (by rw [HD.out]; exact bn1)
          obtain ⟨p3, p4⟩ := hSu.out _ p1 p2
          exact bodyPost_ret (results_none rfl _ _ _) rfl ⟨rfl, _, C1, p3, p4⟩
        · have y2 : ¬ (lm : Int) = 0 := by omega
          have HD : Hid (dk.size = n) := hds
          clear hds
          go_upto_if 35 with fail
          go_cut [3] from 19 to 133 (fun s3 wc => ∃ (l2 : Nat) (d1 : Array Int), s3 = .int .i64 l2 ∧ l2 ≤ 1000 ∧ Cur N w0 blk off n d1 wc ∧ Hid (Sort.PermIn a1 b1 dk d1))
          case first =>
            cases wb
            · go_wp2_with fail
              refine (brk_any N w0 blk off n c a1 b1 dk _ hC (by omega) bn1 hn).mono ?_
              rintro e w1 ⟨rfl, d1, C1, P1⟩
              have HP1 : Hid (Sort.PermIn a1 b1 dk d1) := P1
              clear P1
              go_wp2_with fail
              go_meet
              exact ⟨lm - 1, d1, by congr 1; omega, by omega, C1, HP1⟩
            · go_wp2_with fail
              go_meet
              exact ⟨lm, dk, rfl, hlm, hC, Sort.permIn_refl _ _ _⟩
          case rest =>
            clear hC
            obtain ⟨l2, d1, rfl, hl2, C1, P1⟩ := hcut
            go_wp2_with fail
            refine (pivot_any N w0 blk off n c a1 b1 d1 _ C1 (by omega) bn1 hn).mono ?_
            rintro e w2 ⟨p, t, rfl, k1, k2, C2⟩
            clear C1
            have K2 : Hid (t = 0 ∨ t = 1 ∨ t = 2) := k2
            clear k2
            go_upto_if 50 with fail
            go_cut [11, 12] from 19 to 133 (fun s11 s12 wc => ∃ (p2 : Nat) (t2 : Int) (d2 : Array Int), s11 = .int .i64 p2 ∧ s12 = .int .i64 t2 ∧ (a1 ≤ p2 ∧ p2 < b1) ∧ Cur N w0 blk off n d2 wc ∧ Hid (Sort.PermIn a1 b1 dk d2) ∧ Hid (t2 = 0 ∨ t2 = 1))
            case first =>
              by_cases e2 : t = 2
              · subst e2
                go_wp2_with fail
                refine (rev_any N w0 blk off n c a1 b1 d1 _ C2 (by omega) bn1 hn).mono ?_
                rintro e w3 ⟨rfl, d2, C3, P2⟩
                have HP2 : Hid (Sort.PermIn a1 b1 d1 d2) := P2
                clear P2
                go_wp2_with fail
                go_meet
                exact ⟨b1 - 1 - (p - a1), 1, d2, by congr 1; omega, rfl, by omega, C3, Sort.permIn_trans _ _ _ _ _ P1.out HP2.out, Or.inr rfl⟩
              · have y3 : (t == 2) = false := by simpa using e2
                have T3 : Hid (t = 0 ∨ t = 1) := by have := K2.out; show t = 0 ∨ t = 1; omega
                clear e2
                go_wp2_with fail
                go_meet
                exact ⟨p, t, d1, rfl, rfl, k1, C2, P1, T3⟩
            case rest =>
              clear C2 P1 K2 k1
              obtain ⟨p2, t2, d2, rfl, rfl, k3, C3, P2, T2⟩ := hcut
              go_upto_region 15 with fail
              go_cut [68] from 19 to 133 (fun s68 wx => ∃ B : Bool, s68 = .bool B ∧ Cur N w0 blk off n d2 wx)
              case first =>
                cases wb
                all_goals
                  cases wp
                  all_goals
                    rcases T2.out with e3 | e3
                    all_goals
                      subst e3
                      go_wp2_with fail
                      go_meet
                      exact ⟨_, rfl, C3⟩
              case rest =>
                clear C3 T2
                obtain ⟨B, rfl, C4⟩ := hcut
                go_upto_if 68 with fail
                go_cut [] from 19 to 133 (fun wx => ∃ d3, Cur N w0 blk off n d3 wx ∧ Hid (Sort.PermIn a1 b1 dk d3))
                case first =>
                  cases B
                  · go_wp2_with fail
                    go_meet
                    exact ⟨d2, C4, P2⟩
                  · have HB2 : Hid (Sort.Below Sort.ltInt a1 b1 d2) := hBe.out.perm (by rw [HD.out]; exact bn1) P2.out
                    go_wp2_with fail
                    refine (pis_any N w0 blk off n c a1 b1 d2 _ C4 (by omega) bn1 hn HB2.out).mono ?_
                    rintro e w4 ⟨r, d3, rfl, C5, P3, S3⟩
                    have HP3 : Hid (Sort.PermIn a1 b1 d2 d3) := P3
                    have HS3 : Hid (r = true → Sort.SortedIn Sort.ltInt a1 b1 d3) := S3
                    clear P3 S3
                    cases r
                    · go_wp2_with fail
                      go_meet
                      exact ⟨d3, C5, Sort.permIn_trans _ _ _ _ _ P2.out HP3.out⟩
                    · go_wp2_with fail
                      (try simp only [Exit.inBlock, Exit.then])
                      obtain ⟨p3, p4⟩ := hSu.out _ (Sort.permIn_trans _ _ _ _ _ P2.out HP3.out) (HS3.out (by simp))
                      exact bodyPost_ret (results_none rfl _ _ _) rfl ⟨rfl, _, C5, p3, p4⟩
                case rest =>
                  clear C4 P2
                  obtain ⟨d3, C5, P5⟩ := hcut
                  go_upto_region 17 with fail
                  go_cut [87] from 19 to 133 (fun s87 wx => ∃ B : Bool, s87 = .bool B ∧ Cur N w0 blk off n d3 wx ∧ Hid (B = true → 0 < a1 ∧ d3[p2]! ≤ d3[a1 - 1]!))
                  case first =>
                    obtain ⟨G, hG, hcell, hfroz⟩ := C5.fam
                    have HG : Hid (∀ t, G t = d3[t]!) := hG
                    clear hG
                    have z2 : (p2 : Int) < (n : Int) := by omega
                    rcases Nat.eq_zero_or_pos a1 with ha0 | ha0
                    · have z1 : decide ((0 : Int) < (a1 : Int)) = false := decide_eq_false (by omega)
                      go_quiet ((go_at_call 31; exact (less_any _ _ _).mono fun _ _ h => ⟨h.1, _, h.2⟩))
                      go_wp2_with fail
                      go_meet
                      exact ⟨false, rfl, C5.drewN _, fun q => absurd q (by decide)⟩
                    · have z1 : (0 : Int) < (a1 : Int) := by omega
                      have z3 : (a1 : Int) - 1 < (n : Int) := by omega
                      by_cases hl : G (a1 - 1) < G p2
                      · have hl2 := lt_true hl
                        clear hl
                        go_quiet ((go_at_call 31; exact (less_any _ _ _).mono fun _ _ h => ⟨h.1, _, h.2⟩))
                        go_wp2_with fail
                        go_meet
                        exact ⟨false, by simp, C5.drewN _, fun q => absurd q (by decide)⟩
                      · have hl2 : Sort.ltInt (G (a1 - 1)) (G p2) = false := lt_false (by omega)
                        have HL : Hid (G p2 ≤ G (a1 - 1)) := by show _ ≤ _; omega
                        clear hl
                        go_quiet ((go_at_call 31; exact (less_any _ _ _).mono fun _ _ h => ⟨h.1, _, h.2⟩))
                        go_wp2_with fail
                        go_meet
                        exact ⟨true, by simp, C5.drewN _, fun _ => ⟨ha0, by rw [← HG.out, ← HG.out]; exact HL.out⟩⟩
                  case rest =>
                    clear C5
                    obtain ⟨B, rfl, C6, H6⟩ := hcut
                    have HB3 : Hid (Sort.Below Sort.ltInt a1 b1 d3) := hBe.out.perm (by rw [HD.out]; exact bn1) P5.out
                    have HS3 : Hid (Suff a b d a1 b1 d3) := hSu.out.perm P5.out
                    have HD3 : Hid (d3.size = n) := C6.size
                    clear hBe hSu P5 HD
                    cases B
                    · go_wp2_with fail
                      refine (prt_any N w0 blk off n c a1 b1 p2 d3 _ C6 k3.1 k3.2 bn1 hn).mono ?_
                      rintro e w7 ⟨m, ap, d4, rfl, C7, m1, m2, P7, q1, q2⟩
                      obtain ⟨f1, f2, f3, f4⟩ := part_round (by rw [HD3.out]; exact bn1) HB3.out m1 m2 P7 q1 q2
                      have HF : Hid (Sort.Below Sort.ltInt a1 m d4 ∧ Sort.Below Sort.ltInt (m + 1) b1 d4 ∧ (∀ L, Sort.PermIn a1 m d4 L → Sort.SortedIn Sort.ltInt a1 m L → Sort.Below Sort.ltInt (m + 1) b1 L ∧ ∀ R, Sort.PermIn (m + 1) b1 L R → Sort.SortedIn Sort.ltInt (m + 1) b1 R → Sort.PermIn a1 b1 d3 R ∧ Sort.SortedIn Sort.ltInt a1 b1 R) ∧ (∀ L, Sort.PermIn (m + 1) b1 d4 L → Sort.SortedIn Sort.ltInt (m + 1) b1 L → Sort.Below Sort.ltInt a1 m L ∧ ∀ R, Sort.PermIn a1 m L R → Sort.SortedIn Sort.ltInt a1 m R → Sort.PermIn a1 b1 d3 R ∧ Sort.SortedIn Sort.ltInt a1 b1 R)) := ⟨f1, f2, f3, f4⟩
                      clear P7 q1 q2 f1 f2 f3 f4 C6 H6
                      by_cases h4 : m - a1 < b1 - m
                      · have y4 : (m : Int) - (a1 : Int) < (b1 : Int) - (m : Int) := by omega
                        go_wp2_with fail
                        refine (ih N w0 blk off n c a1 m l2 d4 _ (by omega) C7 m1 (by omega) hn hl2 HF.out.1).mono ?_
                        rintro e w8 ⟨rfl, L, C8, P8, S8⟩
                        obtain ⟨g1, g2⟩ := HF.out.2.2.1 L P8 S8
                        have HG1 : Hid (Sort.Below Sort.ltInt (m + 1) b1 L) := g1
                        have HG2 : Hid (Suff a b d (m + 1) b1 L) := fun R x1 x2 => by obtain ⟨x3, x4⟩ := g2 R x1 x2; exact HS3.out R x3 x4
                        clear g1 g2 P8 S8
                        go_wp2_with fail
                        go_roundg (b1 - (m + 1))
                        case measure => omega
                        case rel => exact ⟨m + 1, b1, l2, _, ap, L, by go_num, rfl, rfl, rfl, rfl, by omega, bn1, Nat.le_refl _, by omega, hl2, C8, HG1, HG2⟩
                      · have y4 : ¬ (m : Int) - (a1 : Int) < (b1 : Int) - (m : Int) := by omega
                        have cc := fun w => ih N w0 blk off n c (m + 1) b1 l2 d4 w (by omega)
                        have e5 : ((m + 1 : Nat) : Int) = (m : Int) + 1 := by omega
                        rw [e5] at cc
                        go_wp2_with fail
                        refine (cc _ C7 (by omega) bn1 hn hl2 HF.out.2.1).mono ?_
                        rintro e w8 ⟨rfl, L, C8, P8, S8⟩
                        obtain ⟨g1, g2⟩ := HF.out.2.2.2 L P8 S8
                        have HG1 : Hid (Sort.Below Sort.ltInt a1 m L) := g1
                        have HG2 : Hid (Suff a b d a1 m L) := fun R x1 x2 => by obtain ⟨x3, x4⟩ := g2 R x1 x2; exact HS3.out R x3 x4
                        clear g1 g2 P8 S8
                        go_wp2_with fail
                        go_roundg (m - a1)
                        case measure => omega
                        case rel => exact ⟨a1, m, l2, _, ap, L, rfl, rfl, rfl, rfl, rfl, by omega, by omega, Nat.le_refl _, by omega, hl2, C8, HG1, HG2⟩
                    · obtain ⟨u1, u2⟩ := H6.out rfl
                      have HU : Hid (d3[p2]! ≤ d3[a1 - 1]!) := u2
                      clear u2 H6
                      go_wp2_with fail
                      refine (peq_any N w0 blk off n c a1 b1 p2 d3 _ C6 k3.1 k3.2 bn1 hn).mono ?_
                      rintro e w7 ⟨m, d4, rfl, C7, m1, m2, P7, q1, q2⟩
                      obtain ⟨f1, f2⟩ := eq_round u1 (by rw [HD3.out]; exact bn1) HB3.out HU.out m1 m2 P7 q1 q2
                      have HG1 : Hid (Sort.Below Sort.ltInt m b1 d4) := f1
                      have HG2 : Hid (Suff a b d m b1 d4) := fun R x1 x2 => by obtain ⟨x3, x4⟩ := f2 R x1 x2; exact HS3.out R x3 x4
                      clear f1 f2 P7 q1 q2
                      go_wp2_with fail
                      go_roundg (b1 - m)
                      case measure => omega
                      case rel => exact ⟨m, b1, l2, wb, wp, d4, rfl, rfl, rfl, rfl, rfl, m2, bn1, Nat.le_refl _, by omega, hl2, C7, HG1, HG2⟩

set_option maxHeartbeats 1000000 in
/-- slices.Sort at numbers of 64 bits, of a row of the call's own -/
theorem sort_any (N : Nat) (w0 : World) (blk off n c : Nat) (d : Array Int) (w : World) (h : Cur N w0 blk off n d w) (hn : n ≤ 1048576) :
    Calls Try.prog 11 #[.slice (some ⟨blk, off, none⟩) n c] w (Done N w0 blk off n 0 n d) := by
  go_enter Try.func11, Try.ntmps11
  go_wp2_with fail
  refine (len_any (n : Int) (by omega) (by omega) _).mono ?_
  rintro e w1 ⟨L, rfl, l1, l2, rfl⟩
  clear l2
  go_wp2_with fail
  refine (pdq_any (n + 1) N w0 blk off n c 0 n L d _ (by omega) h (by omega) (by omega) hn (by omega) (Or.inl rfl)).mono ?_
  rintro e w2 ⟨rfl, d', C, P, S⟩
  have HP : Hid (Sort.PermIn 0 n d d' ∧ Sort.SortedIn Sort.ltInt 0 n d') := ⟨P, S⟩
  clear P S
  go_wp2_with fail
  go_end0
  exact ⟨rfl, d', C, HP.out.1, HP.out.2⟩

end Go.Proofs.Ytdnjipikggehmaa
