/-
  The library's sort at numbers of 64 bits: a range shaken up: its numbers in some other order.
-/
import Derived.Test.YtdnjipikggehmaaSrtBrk
import Derived.Test.YtdnjipikggehmaaBits
namespace Go.Proofs.Ytdnjipikggehmaa
open Go.RowKit
set_option linter.unusedVariables false

/-- a box behind the row, with some number of 64 bits in it -/
def Rnd (blk sb : Nat) (w : World) : Prop := blk < sb ∧ ∃ s : Int, w.cell? ⟨sb, 0, none⟩ = some (.int .u64 s) ∧ w.frozen? ⟨sb, 0, none⟩ = false
theorem Rnd.drewN {blk sb : Nat} {w : World} (h : Rnd blk sb w) (q : Nat) : Rnd blk sb (w.drewN q) := h
theorem Rnd.row {blk sb : Nat} {w : World} (h : Rnd blk sb w) (o : Nat) (v : Value) : Rnd blk sb (w.setCell ⟨blk, o, none⟩ v) := by
  obtain ⟨h1, s, h2, h3⟩ := h
  exact ⟨h1, s, by rw [World.cell?_setCell_other _ _ _ _ (by simp <;> omega)]; exact h2, by rw [World.frozen?_setCell]; exact h3⟩

set_option maxHeartbeats 1000000 in
set_option maxRecDepth 100000 in
theorem next_any (N : Nat) (w0 : World) (blk off n sb : Nat) (d : Array Int) (w : World) (h : Cur N w0 blk off n d w) (hx : Rnd blk sb w) :
    Calls Try.prog 38 #[.pointer (some ⟨sb, 0, none⟩)] w fun e w' => ∃ r : Int, e = .returned (.int .u64 r) ∧ Cur N w0 blk off n d w' ∧ Rnd blk sb w' := by
  obtain ⟨hb, s, hc, hf⟩ := hx
  go_enter Try.func38, Try.ntmps38
  go_wp2_with fail
  go_region
  generalize bits .xor .u64 s (IntKind.u64.wrap (s * 8192)) = s1
  have h1 : Cur N w0 blk off n d (w.setCell ⟨sb, 0, none⟩ (.int .u64 s1)).drew := (h.box hb _).drewN 1
  have hc1 : (w.setCell ⟨sb, 0, none⟩ (.int .u64 s1)).drew.cell? ⟨sb, 0, none⟩ = some (.int .u64 s1) := World.cell?_setCell_same _ _ _ hc
  have hf1 : (w.setCell ⟨sb, 0, none⟩ (.int .u64 s1)).drew.frozen? ⟨sb, 0, none⟩ = false := (World.frozen?_setCell ..).trans hf
  generalize (w.setCell ⟨sb, 0, none⟩ (.int .u64 s1)).drew = w1 at h1 hc1 hf1 ⊢
  clear h hc hf
  go_wp2_with fail
  go_region
  generalize bits .xor .u64 s1 (s1 / 128) = s2
  have h2 : Cur N w0 blk off n d (w1.setCell ⟨sb, 0, none⟩ (.int .u64 s2)).drew := (h1.box hb _).drewN 1
  have hc2 : (w1.setCell ⟨sb, 0, none⟩ (.int .u64 s2)).drew.cell? ⟨sb, 0, none⟩ = some (.int .u64 s2) := World.cell?_setCell_same _ _ _ hc1
  have hf2 : (w1.setCell ⟨sb, 0, none⟩ (.int .u64 s2)).drew.frozen? ⟨sb, 0, none⟩ = false := (World.frozen?_setCell ..).trans hf1
  generalize (w1.setCell ⟨sb, 0, none⟩ (.int .u64 s2)).drew = w2 at h2 hc2 hf2 ⊢
  clear h1 hc1 hf1
  go_wp2_with fail
  go_region
  generalize bits .xor .u64 s2 (IntKind.u64.wrap (s2 * 131072)) = s3
  have h3 : Cur N w0 blk off n d (w2.setCell ⟨sb, 0, none⟩ (.int .u64 s3)).drew := (h2.box hb _).drewN 1
  have hc3 : (w2.setCell ⟨sb, 0, none⟩ (.int .u64 s3)).drew.cell? ⟨sb, 0, none⟩ = some (.int .u64 s3) := World.cell?_setCell_same _ _ _ hc2
  have hf3 : (w2.setCell ⟨sb, 0, none⟩ (.int .u64 s3)).drew.frozen? ⟨sb, 0, none⟩ = false := (World.frozen?_setCell ..).trans hf2
  generalize (w2.setCell ⟨sb, 0, none⟩ (.int .u64 s3)).drew = w3 at h3 hc3 hf3 ⊢
  clear h2 hc2 hf2
  go_wp2_with fail
  go_ret
  exact ⟨s3, rfl, h3, hb, s3, hc3, hf3⟩

theorem rnd_new (w : World) {blk : Nat} {v : Int} {t : TypeId} (h : blk < w.heap.size) : Rnd blk w.heap.size (w.alloc (.cells #[.int .u64 v] t)) :=
  ⟨h, v, by go_simp, by go_simp⟩
theorem wraps_u64 (n : Int) (h₀ : 0 ≤ n) (h₁ : n < 2 ^ 64) : IntKind.u64.wrap n = n := by rw [IntKind.wrap_u64]; omega
theorem mask_any (r : Int) (L : Nat) (hL : L ≤ 32) : bits .and .u64 r (2 ^ L - 1) = r % 2 ^ L := bits_mask_any .u64 64 (by decide) wraps_u64 L (by omega) r

set_option maxHeartbeats 4000000 in
set_option maxRecDepth 100000 in
theorem brk_any (N : Nat) (w0 : World) (blk off n c a b : Nat) (d : Array Int) (w : World) (h : Cur N w0 blk off n d w) (hab : a + 12 < b) (hb : b ≤ n) (hn : n ≤ 1048576) :
    Calls Try.prog 27 #[.slice (some ⟨blk, off, none⟩) n c, .int .i64 a, .int .i64 b] w fun e w' =>
      e = .returned (.tuple #[]) ∧ ∃ d', Cur N w0 blk off n d' w' ∧ Sort.PermIn a b d d' := by
  obtain ⟨l, hl⟩ : ∃ l : Nat, b = a + l := ⟨b - a, by omega⟩
  obtain ⟨q, hq⟩ : ∃ q : Nat, q = l / 4 := ⟨_, rfl⟩
  have zl : (b : Int) - (a : Int) = (l : Int) := by omega
  have zq : (l : Int) / 4 = (q : Int) := by omega
  have z8 : (8 : Int) ≤ (l : Int) := by omega
  have q1 : 3 ≤ q := by omega
  have q2 : 4 * q ≤ l := by omega
  have HL : Hid (b = a + l) := hl
  have l2 : a + l ≤ n := by omega
  clear hl hq
  go_enter Try.func27, Try.ntmps27
  go_upto_region 3 with fail
  have hC1 : Cur N w0 blk off n d (w.alloc (.cells #[.int .u64 (l : Int)] 59)) := h.later ((Below.refl w.heap.size w).alloc (Nat.le_refl _) _) h.lt
  have hX1 : Hid (Rnd blk w.heap.size (w.alloc (.cells #[.int .u64 (l : Int)] 59))) := rnd_new w h.lt
  generalize w.alloc (.cells #[.int .u64 (l : Int)] 59) = w1 at hC1 hX1 ⊢
  clear h
  generalize w.heap.size = sb at hX1 ⊢
  go_wp2_with fail
  refine (power_any (l : Int) (by omega) (by omega) _).mono ?_
  rintro e w2 ⟨L, rfl, k1, k2, rfl⟩
  have m1 : (2 : Int) ^ L ≤ 2 * (l : Int) := k2 (by omega)
  have m2 := pow_pos1 L
  have hmask := fun r => mask_any r L k1
  have hmod : ∀ r : Int, 0 ≤ r % 2 ^ L ∧ r % 2 ^ L < 2 ^ L := fun r => ⟨Int.emod_nonneg r (by omega), Int.emod_lt_of_pos r (by omega)⟩
  clear k1 k2
  generalize (2 : Int) ^ L = M at m1 m2 hmask hmod ⊢
  have HM : Hid ((∀ r, bits .and .u64 r (M - 1) = r % M) ∧ ∀ r : Int, 0 ≤ r % M ∧ r % M < M) := ⟨hmask, hmod⟩
  clear hmask hmod
  go_wp2_with fail
  go_loopg [9] 3 (fun g s wr => ∃ (i : Nat) (dk : Array Int), s = .int .i64 i ∧ a + q * 2 + 2 - i ≤ g ∧ a + q * 2 ≤ i + 1 ∧ i ≤ a + q * 2 + 2 ∧ Cur N w0 blk off n dk wr ∧ Hid (Rnd blk sb wr) ∧ Hid (Sort.PermIn a b d dk))
  case atStart => exact ⟨a + q * 2 - 1, d, by congr 1; omega, by omega, by omega, by omega, hC1, hX1, Sort.permIn_refl _ _ _⟩
  case round =>
    clear hC1 hX1
    obtain ⟨i, dk, rfl, hg, hi1, hi2, hC, hX, hP⟩ := hrel
    by_cases hle : i ≤ a + q * 2 + 1
    · have y1 : (i : Int) ≤ (a : Int) + (q : Int) * 2 + 1 := by omega
      have y2 : (i : Int) < (n : Int) := by omega
      go_wp2_with fail
      refine (next_any N w0 blk off n sb dk _ hC hX.out).mono ?_
      rintro e w3 ⟨r, rfl, hC3, X3⟩
      have hX3 : Hid (Rnd blk sb w3) := X3
      obtain ⟨HM1, HM2⟩ := HM.out
      have o1 := HM1 r
      obtain ⟨o2, o3⟩ := HM2 r
      clear X3 hC hX HM1 HM2
      generalize r % M = o at o1 o2 o3
      obtain ⟨t, rfl⟩ := Int.eq_ofNat_of_zero_le o2
      go_upto_if 43 with fail
      go_cut [10] (fun s wc => ∃ u : Nat, s = .int .i64 u ∧ u < l ∧ wc = w3)
      case first =>
        by_cases htl : l ≤ t
        · have y3 : (l : Int) ≤ (t : Int) := by omega
          go_wp2_with fail
          go_meet
          exact ⟨t - l, by congr 1; omega, by omega, rfl⟩
        · have y3 : ¬ (l : Int) ≤ (t : Int) := by omega
          go_wp2_with fail
          go_meet
          exact ⟨t, rfl, by omega, rfl⟩
      case rest =>
        obtain ⟨u, rfl, hu, rfl⟩ := hcut
        clear o1 o2 o3
        have y4 : (a : Int) + (u : Int) < (n : Int) := by omega
        obtain ⟨G, hG, hcell, hfroz⟩ := hC3.fam
        have HG : Hid (∀ t, G t = dk[t]!) := hG
        clear hG
        by_cases e : i = a + u
        · subst e
          go_wp2_with fail
          go_region
          go_wp2_with fail
          go_roundg (a + q * 2 + 2 - (a + u + 1))
          case measure => omega
          case rel => exact ⟨a + u + 1, Sort.swp dk (a + u) (a + u), by go_num, by omega, by omega, by omega, (hC3.drewN 1).swap (by omega) (by omega) (HG.out _) (HG.out _), ((hX3.out.drewN 1).row _ _).row _ _, Sort.permIn_trans _ _ _ _ _ hP.out (Sort.swp_permIn dk a b _ (a + u) (by omega) (by rw [HL.out]; omega) (by omega) (by rw [HL.out]; omega) (by rw [hC3.size]; omega))⟩
        · have e2 : ¬ a + u = i := by omega
          go_wp2_with fail
          go_region
          go_wp2_with fail
          go_roundg (a + q * 2 + 2 - (i + 1))
          case measure => omega
          case rel => exact ⟨i + 1, Sort.swp dk i (a + u), by go_num, by omega, by omega, by omega, (hC3.drewN 1).swap (by omega) (by omega) (HG.out _) (HG.out _), ((hX3.out.drewN 1).row _ _).row _ _, Sort.permIn_trans _ _ _ _ _ hP.out (Sort.swp_permIn dk a b _ (a + u) (by omega) (by rw [HL.out]; omega) (by omega) (by rw [HL.out]; omega) (by rw [hC3.size]; omega))⟩
    · have y1 : ¬ (i : Int) ≤ (a : Int) + (q : Int) * 2 + 1 := by omega
      go_wp2_with fail
      go_end0
      exact ⟨rfl, dk, hC, hP.out⟩

end Go.Proofs.Ytdnjipikggehmaa
