/-
  Contracts of frame.Pack and the document's own FrameText: what is written.
-/
import Derived.Test.YtiaolelkabbnmaaFrmPut
namespace Go.Proofs.Ytiaolelkabbnmaa
open Go.RowKit
set_option linter.unusedVariables false

/-- n words that lie one behind another in memory that is there; or none at all -/
def Wds (w : World) (a : Option Addr) (n : Nat) (l : Nat → Int) : Prop := 0 < n → ∃ b o, a = some ⟨b, o, none⟩ ∧ b < w.heap.size ∧ Row32 w b o n l
theorem Wds.later {w w' : World} {a : Option Addr} {n : Nat} {l : Nat → Int} (h : Wds w a n l) (hb : Below w.heap.size w w') : Wds w' a n l := fun hn => by
  obtain ⟨b, o, e, hlt, hr⟩ := h hn
  exact ⟨b, o, e, Nat.lt_of_lt_of_le hlt hb.size, fun j hj => (hb.cell (p := ⟨b, o + j, none⟩) hlt).trans (hr j hj)⟩
/-- what was written so far lies in a row of the call's own -/
structure Pk (w : World) (bs : List UInt8) (m : Nat) (v : Value) (W : World) : Prop where
  own : W.ownsRow w.heap.size 5 1 v m (Lib.byteCells bs)
  below : Below w.heap.size w W
theorem head_cells (K L S : Int) (n : Nat) (l : Nat → Int) (h1 : 0 ≤ 16 * K + L) (h2 : 16 * K + L < 256) (s0 : 0 ≤ S) (s1 : S < 256) (hn : n < 256) : Lib.byteCells (frL K L S n l 0) = [.int .u8 (16 * K + L), .int .u8 S, .int .u8 n] := by
  unfold frL Lib.byteCells
  simp only [List.map_cons, List.map_nil, UInt8.toNat_ofNat', List.cons.injEq, Value.int.injEq, true_and, and_true]
  omega
theorem owns_three (w : World) (N : Nat) (x y z : Value) (hN : N ≤ w.heap.size) : (w.alloc (.cells #[x, y, z] 5)).ownsRow N 5 1 (.slice (some ⟨w.heap.size, 0, none⟩) 3 3) 3 [x, y, z] :=
  ⟨rfl, .inr ⟨w.heap.size, 3, #[x, y, z], rfl, hN, heap_alloc_new w _, Nat.le_refl _, by unfold maxLen; omega, rfl, rfl⟩⟩
theorem pk_start {w w1 : World} {K L S : Int} {n : Nat} {l : Nat → Int} (h1 : 0 ≤ 16 * K + L) (h2 : 16 * K + L < 256) (s0 : 0 ≤ S) (s1 : S < 256) (hn : n < 256) (hb : Below w.heap.size w w1) :
    Pk w (frL K L S n l 0) 3 (.slice (some ⟨w1.heap.size, 0, none⟩) 3 3) (w1.alloc (.cells #[.int .u8 (16 * K + L), .int .u8 S, .int .u8 n] 5)) := by
  refine ⟨?_, hb.alloc hb.size _⟩
  rw [head_cells K L S n l h1 h2 s0 s1 hn]
  exact owns_three _ _ _ _ _ hb.size

set_option maxHeartbeats 1000000 in
set_option maxRecDepth 100000 in
theorem pack_bad (K L S E : Int) (a : Option Addr) (n c : Nat) (w : World) (hE : frE K L n = E) (h0 : E ≠ 0) :
    Calls Try.prog 20 #[.agg #[.int .i64 K, .int .i64 L, .int .u8 S, .slice a n c]] w fun e w' => e = .returned (.tuple #[.string ⟨#[]⟩, .int .i64 E]) ∧ Below w.heap.size w w' := by
  have HC : Hid (∀ W, Calls Try.prog 31 #[.agg #[.int .i64 K, .int .i64 L, .int .u8 S, .slice a n c]] W fun e w' => e = .returned (.int .i64 E) ∧ Below W.heap.size W w') := fun W => by rw [← hE]; exact check_any K L S a n c W
  clear hE
  have q : (E != 0) = true := by simpa using h0
  go_enter Try.func20, Try.ntmps20
  go_wp2_with fail
  refine (HC.out _).mono ?_
  rintro e w1 ⟨rfl, hb⟩
  have B1 : Hid (Below w.heap.size w w1) := ((Below.refl w.heap.size w).alloc (Nat.le_refl _) _).trans (hb.mono (by simp))
  clear hb
  go_wp2_with fail
  go_ret2
  exact ⟨rfl, B1.out⟩

set_option maxHeartbeats 2000000 in
set_option maxRecDepth 100000 in
theorem pack_ok (K L S : Int) (a : Option Addr) (n c : Nat) (l : Nat → Int) (w : World) (hE : frE K L n = 0) (s0 : 0 ≤ S) (s1 : S < 256) (hr : Wds w a n l) :
    Calls Try.prog 20 #[.agg #[.int .i64 K, .int .i64 L, .int .u8 S, .slice a n c]] w fun e w' => e = .returned (.tuple #[.string (frT K L S n l ++ two (crcN (frT K L S n l))), .int .i64 0]) ∧ Below w.heap.size w w' := by
  have HC : Hid (∀ W, Calls Try.prog 31 #[.agg #[.int .i64 K, .int .i64 L, .int .u8 S, .slice a n c]] W fun e w' => e = .returned (.int .i64 0) ∧ Below W.heap.size W w') := fun W => by rw [← hE]; exact check_any K L S a n c W
  obtain ⟨⟨l0, l1, hk⟩, hn⟩ := frE_zero hE
  clear hE
  have k0 : 1 ≤ K := by omega
  have k1 : K ≤ 2 := by omega
  clear hk
  have HR : Hid (Wds w a n l) := hr
  clear hr
  have HP : Hid (∀ W, Calls Try.prog 38 #[.string (frT K L S n l)] W fun e w' => e = .returned (.tuple #[.string (frT K L S n l ++ two (crcN (frT K L S n l))), .int .i64 0]) ∧ Below W.heap.size W w') := fun W => put_ok _ W (by rw [frT_size]; omega)
  have HT : Hid ((⟨(frL K L S n l n).toArray⟩ : ByteArray) = frT K L S n l) := rfl
  generalize frT K L S n l = T at HP HT ⊢
  generalize T ++ two (crcN T) = T2 at HP ⊢
  go_enter Try.func20, Try.ntmps20
  go_wp2_with fail
  refine (HC.out _).mono ?_
  rintro e w1 ⟨rfl, hb⟩
  have B1 : Hid (Below w.heap.size w w1) := ((Below.refl w.heap.size w).alloc (Nat.le_refl _) _).trans (hb.mono (by simp))
  have x0 := (hb.cell (p := ⟨w.heap.size, 0, none⟩) (by simp)).trans (show _ = some (Value.int .i64 K) by go_simp)
  have x1 := (hb.cell (p := ⟨w.heap.size, 1, none⟩) (by simp)).trans (show _ = some (Value.int .i64 L) by go_simp)
  have x2 := (hb.cell (p := ⟨w.heap.size, 2, none⟩) (by simp)).trans (show _ = some (Value.int .u8 S) by go_simp)
  have x3 := (hb.cell (p := ⟨w.heap.size, 3, none⟩) (by simp)).trans (show _ = some (Value.slice a n c) by go_simp)
  have g1 : w.heap.size < w1.heap.size := by have := hb.size; simp at this; omega
  clear hb
  go_wp2_with fail
  have P0 : Hid (_) := pk_start (K := K) (L := L) (S := S) (n := n) (l := l) (by omega) (by omega) s0 s1 (by omega) B1.out
  clear x0 x1 x2 x3 g1 B1 HC
  generalize w1.alloc (.cells #[.int .u8 (16 * K + L), .int .u8 S, .int .u8 (n : Int)] 5) = w2 at P0 ⊢
  generalize Value.slice (some ⟨w1.heap.size, 0, none⟩) 3 3 = v0 at P0 ⊢
  go_loopw [5, 30] (fun v i wr => ∃ j : Nat, j ≤ n ∧ i = .int .i64 j ∧ Hid (Pk w (frL K L S n l j) (3 + 4 * j) v wr)) (fun _ i _ => n - (intOf i).toNat)
  case atStart => exact ⟨0, by omega, rfl, P0⟩
  case round =>
    obtain ⟨j, hj, rfl, LJ⟩ := hrel
    rcases Nat.lt_or_ge j n with g | g
    · have g' : (j : Int) < (n : Int) := by omega
      obtain ⟨b, o, rfl, hb, hrow⟩ := HR.out (by omega)
      have y0 := (LJ.out.below.cell (p := ⟨b, o + j, none⟩) hb).trans (hrow j g)
      clear hrow
      go_wp2_with fail
      refine (putWord_any w.heap.size _ (3 + 4 * j) (frL K L S n l j) (l j) _ LJ.out.below.size (by omega) (by omega) LJ.out.own).mono ?_
      rintro e w3 ⟨v3, rfl, ho, hb3⟩
      have L3 : Hid (Pk w (frL K L S n l (j + 1)) (3 + 4 * (j + 1)) v3 w3) := ⟨ho, LJ.out.below.trans hb3⟩
      clear ho hb3
      go_wp2_with fail
      go_roundw
      case rel => exact ⟨j + 1, by omega, by go_num, L3⟩
      case measure => simp [intOf]; omega
    · have : j = n := by omega
      subst this
      have hcv := owned_text LJ.out.own (by omega)
      rw [HT.out] at hcv
      go_wp2_with fail
      refine (HP.out _).mono ?_
      rintro e w4 ⟨rfl, hb⟩
      have B4 : Hid (Below w.heap.size w w4) := LJ.out.below.trans (hb.mono LJ.out.below.size)
      clear hb
      go_wp2_with fail
      go_ret2
      exact ⟨rfl, B4.out⟩

end Go.Proofs.Ytiaolelkabbnmaa
