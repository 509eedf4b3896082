/-
  Contract of the document's own FrameText: the same bytes as Pack's.
-/
import Derived.Test.YtfenajekaijlpaaFrmPack
namespace Go.Proofs.Ytfenajekaijlpaa
open Go.RowKit
set_option linter.unusedVariables false

theorem pk_more {w wr w3 : World} {bs : List UInt8} {m : Nat} {x : Int} {v v3 : Value} {o : Obj} (h : Pk w bs m v wr) (ho : w3.ownsRow w.heap.size 5 1 v3 (m + 4) (Lib.byteCells bs ++ Lib.byteCells (four x))) (hg : (wr.alloc o).grownBy w3 v.ownBlock) : Pk w (bs ++ four x) (m + 4) v3 w3 := by
  refine ⟨by rw [Lib.byteCells_append]; exact ho, (h.below.alloc h.below.size _).grown hg ?_ (fun k hk => (h.own.lt k hk).1)⟩
  simp
  have := h.below.size
  omega

set_option maxHeartbeats 2000000 in
set_option maxRecDepth 100000 in
theorem rtext_ok (K L S : Int) (a : Option Addr) (n c : Nat) (l : Nat → Int) (w : World) (hE : frE K L n = 0) (s0 : 0 ≤ S) (s1 : S < 256) (hl : In32 l) (hr : Wds w a n l) :
    Calls Try.prog 8 #[.agg #[.int .i64 K, .int .i64 L, .int .u8 S, .slice a n c]] w fun e w' => e = .returned (.string (frT K L S n l ++ two (crcN (frT K L S n l)))) ∧ Below w.heap.size w w' := by
  obtain ⟨⟨l0, l1, hk⟩, hn⟩ := frE_zero hE
  clear hE
  have k0 : 1 ≤ K := by omega
  have k1 : K ≤ 2 := by omega
  clear hk
  have HR : Hid (Wds w a n l) := hr
  have HL : Hid (In32 l) := hl
  clear hr hl
  have HP : Hid (∀ W, Calls Try.prog 17 #[.string (frT K L S n l)] W fun e w' => e = .returned (.tuple #[.string (frT K L S n l ++ two (crcN (frT K L S n l))), .int .i64 0]) ∧ Below W.heap.size W w') := fun W => rput_ok _ W (by rw [frT_size]; omega)
  have HT : Hid ((⟨(frL K L S n l n).toArray⟩ : ByteArray) = frT K L S n l) := rfl
  generalize frT K L S n l = T at HP HT ⊢
  generalize T ++ two (crcN T) = T2 at HP ⊢
  obtain ⟨i, i1, i2, i3, i4⟩ := info8
  go_enter Try.func8, Try.ntmps8
  go_wp2_with fail
  have B1 : Hid (Below w.heap.size w (w.alloc (.cells #[.int .i64 K, .int .i64 L, .int .u8 S, .slice a n c] 24))) := (Below.refl w.heap.size w).alloc (Nat.le_refl _) _
  have P0 : Hid (_) := pk_start (K := K) (L := L) (S := S) (n := n) (l := l) (by omega) (by omega) s0 s1 (by omega) B1.out
  simp only [World.size_alloc] at P0
  generalize Value.slice (some ⟨w.heap.size + 1, 0, none⟩) 3 3 = v0 at P0 ⊢
  generalize (w.alloc (.cells #[.int .i64 K, .int .i64 L, .int .u8 S, .slice a n c] 24)).alloc (.cells #[.int .u8 (16 * K + L), .int .u8 S, .int .u8 (n : Int)] 5) = w2 at P0 ⊢
  clear B1
  go_loopw [3, 26] (fun v i wr => ∃ j : Nat, j ≤ n ∧ i = .int .i64 j ∧ Hid (Pk w (frL K L S n l j) (3 + 4 * j) v wr)) (fun _ i _ => n - (intOf i).toNat)
  case atStart => exact ⟨0, by omega, rfl, P0⟩
  case round =>
    obtain ⟨j, hj, rfl, LJ⟩ := hrel
    rcases Nat.lt_or_ge j n with g | g
    · have g' : (j : Int) < (n : Int) := by omega
      obtain ⟨b, o, rfl, hb, hrow⟩ := HR.out (by omega)
      have y0 := (LJ.out.below.cell (p := ⟨b, o + j, none⟩) hb).trans (hrow j g)
      clear hrow
      obtain ⟨p1, p2⟩ := HL.out j
      have F : Hid (Lib.byteCells (four (l j)) = [.int .u8 (l j % 4294967296 / 16777216), .int .u8 (l j % 4294967296 / 65536 % 256), .int .u8 (l j % 4294967296 / 256 % 256), .int .u8 (l j % 4294967296 % 256)]) := four_cells (l j)
      obtain ⟨x, hx⟩ : ∃ x, l j = x := ⟨_, rfl⟩
      rw [hx] at y0 p1 p2
      rcases Int.lt_or_le x 0 with q | q
      · have F2 : Hid (l j % 4294967296 = x + 4294967296) := by rw [hx]; show x % 4294967296 = _; omega
        rw [F2.out] at F
        have HX : Hid (l j = x) := hx
        clear hx
        go_wp2_with (at_builtin; refine wpList_append_own _ rfl _ _ 37 rfl w.heap.size 5 i (.int .u8 0) 1 1 Try.underlying37 i1 i2 i3 i4 rfl (by omega) _ _ _ rfl (LJ.out.own.alloc _) ⟨wr.heap.size, 0, none⟩ 4 _ (Lib.byteCells (four (l j))) rfl ?qc1 ?qc2 ?qc3 ?qc4 ?qc5 ?qc6 ?_)
        case qc1 => rw [Lib.byteCells_length]; rfl
        case qc2 =>
          rw [F.out]
          intro k y hk
          rcases k with _ | _ | _ | _ | k
          · obtain rfl : y = _ := (Option.some.inj hk).symm
            first | exact hk | (rw [Addr.add_lit]; go_simp)
          · obtain rfl : y = _ := (Option.some.inj hk).symm
            first | exact hk | (rw [Addr.add_lit]; go_simp)
          · obtain rfl : y = _ := (Option.some.inj hk).symm
            first | exact hk | (rw [Addr.add_lit]; go_simp)
          · obtain rfl : y = _ := (Option.some.inj hk).symm
            first | exact hk | (rw [Addr.add_lit]; go_simp)
          · exact absurd hk (by simp)
        case qc3 => exact Lib.byteCells_one _
        case qc4 => unfold maxLen; omega
        case qc5 => omega
        case qc6 => have := LJ.out.below.size; simp; omega
        intro v3 w3 ho hgr _
        have L3 : Hid (Pk w (frL K L S n l (j + 1)) (3 + 4 * (j + 1)) v3 w3) := pk_more LJ.out ho hgr
        clear ho hgr
        go_wp2_with fail
        go_roundw
        case rel => exact ⟨j + 1, by omega, by go_num, L3⟩
        case measure => simp [intOf]; omega
      · have F2 : Hid (l j % 4294967296 = x) := by rw [hx]; show x % 4294967296 = _; omega
        rw [F2.out] at F
        have HX : Hid (l j = x) := hx
        clear hx
        have q' : ¬ x < 0 := by omega
        go_wp2_with (at_builtin; refine wpList_append_own _ rfl _ _ 37 rfl w.heap.size 5 i (.int .u8 0) 1 1 Try.underlying37 i1 i2 i3 i4 rfl (by omega) _ _ _ rfl (LJ.out.own.alloc _) ⟨wr.heap.size, 0, none⟩ 4 _ (Lib.byteCells (four (l j))) rfl ?qc1 ?qc2 ?qc3 ?qc4 ?qc5 ?qc6 ?_)
        case qc1 => rw [Lib.byteCells_length]; rfl
        case qc2 =>
          rw [F.out]
          intro k y hk
          rcases k with _ | _ | _ | _ | k
          · obtain rfl : y = _ := (Option.some.inj hk).symm
            first | exact hk | (rw [Addr.add_lit]; go_simp)
          · obtain rfl : y = _ := (Option.some.inj hk).symm
            first | exact hk | (rw [Addr.add_lit]; go_simp)
          · obtain rfl : y = _ := (Option.some.inj hk).symm
            first | exact hk | (rw [Addr.add_lit]; go_simp)
          · obtain rfl : y = _ := (Option.some.inj hk).symm
            first | exact hk | (rw [Addr.add_lit]; go_simp)
          · exact absurd hk (by simp)
        case qc3 => exact Lib.byteCells_one _
        case qc4 => unfold maxLen; omega
        case qc5 => omega
        case qc6 => have := LJ.out.below.size; simp; omega
        intro v3 w3 ho hgr _
        have L3 : Hid (Pk w (frL K L S n l (j + 1)) (3 + 4 * (j + 1)) v3 w3) := pk_more LJ.out ho hgr
        clear ho hgr
        go_wp2_with fail
        go_roundw
        case rel => exact ⟨j + 1, by omega, by go_num, L3⟩
        case measure => simp [intOf]; omega
    · have : j = n := by omega
      subst this
      have hcv := owned_text LJ.out.own (by omega)
      rw [HT.out] at hcv
      go_wp2_with fail
      refine (HP.out _).mono ?_
      rintro e w4 ⟨rfl, hb⟩
      have B4 : Hid (Below w.heap.size w w4) := LJ.out.below.trans (hb.mono LJ.out.below.size)
      clear hb
      go_wp2_with fail
      go_ret
      exact ⟨rfl, B4.out⟩

end Go.Proofs.Ytfenajekaijlpaa
