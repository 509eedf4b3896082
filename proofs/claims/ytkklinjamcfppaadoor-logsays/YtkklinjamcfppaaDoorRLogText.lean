/-
  Contract of the document's LogText: what Text writes of a right log.
-/
import Derived.Test.YtkklinjamcfppaaDoorLogText
namespace Go.Proofs.YtkklinjamcfppaaDoor
open Go.RowKit
set_option linter.unusedVariables false

set_option maxHeartbeats 8000000 in
set_option maxRecDepth 100000 in
theorem rtext_any (a : Option Addr) (n c : Nat) (l : Nat → En) (w : World) (h : RowE w a n l) (hE : chE l n = 0) (hp : P10 w) :
    Calls Tryd.prog 10 #[.slice a n c] w fun e w' => e = .returned (.string ⟨(txL l n).toArray⟩) ∧ Below w.heap.size w w' := by
  obtain ⟨hn, hf⟩ := chE_zero hE
  have HR : Hid (RowE w a n l) := h
  have HP : Hid (P10 w) := hp
  have HI : Hid (∀ k, k < n → OkI (l k)) := fun k hk => okI_of (fsE_zero hf hk).1
  clear h hE hf hp
  go_enter Tryd.func10, Tryd.ntmps10
  go_wp2_with fail
  go_loopg [3, 8] (n + 1) (fun g s3 s8 wr => ∃ q : Nat, s3 = .string ⟨(txL l q).toArray⟩ ∧ s8 = .int .i64 q ∧ n - q < g ∧ q ≤ n ∧ Hid (Below w.heap.size w wr))
  case atStart => exact ⟨0, rfl, rfl, by omega, by omega, Below.refl _ _⟩
  case round =>
    obtain ⟨q, rfl, rfl, hg, hq, HB⟩ := hrel
    by_cases hlt : q < n
    · have z1 : (q : Int) < (n : Int) := by omega
      obtain ⟨b, o, rfl, hb, hc⟩ := HR.out (by omega)
      obtain ⟨x0, x1, x2, x3⟩ := (hc q hlt).step HB.out hb
      clear hc
      obtain ⟨x, hx⟩ : ∃ x, l q = x := ⟨_, rfl⟩
      have hx2 : OkI x := by rw [← hx]; exact HI.out q hlt
      obtain ⟨Y, hY⟩ : ∃ Y : ByteArray, ⟨(txL l q).toArray⟩ = Y := ⟨_, rfl⟩
      obtain ⟨A, hA⟩ : ∃ A : Int → ByteArray, A = itB := ⟨_, rfl⟩
      have HA : Hid (Y ++ ((((((((A x.f ++ ⟨#[58]⟩ : ByteArray) ++ A x.l) ++ ⟨#[58]⟩) ++ A x.c) ++ ⟨#[120]⟩) ++ A x.m) ++ ⟨#[10]⟩)) = ⟨(txL l (q + 1)).toArray⟩) := by
        show Y ++ ((((((((A x.f ++ ⟨#[58]⟩ : ByteArray) ++ A x.l) ++ ⟨#[58]⟩) ++ A x.c) ++ ⟨#[120]⟩) ++ A x.m) ++ ⟨#[10]⟩)) = ⟨(txL l q ++ lnL (l q)).toArray⟩
        rw [hA, ← hY, hx]
        unfold itB lnL
        rw [show (#[58] : Array UInt8) = [58].toArray from rfl, show (#[120] : Array UInt8) = [120].toArray from rfl, show (#[10] : Array UInt8) = [10].toArray from rfl]
        simp only [bytes_append, List.append_assoc, List.cons_append, List.nil_append]
      have hYs : Y.size ≤ 88 * 32 := by
        rw [← hY]
        have := txL_length (l := l) (n := q) (fun k hk => HI.out k (by omega))
        show (txL l q).length ≤ _
        omega
      rw [hY]
      rw [hx] at x0 x1 x2 x3
      have n0 : (A x.f).size ≤ 21 := by rw [hA]; exact Lib.itoa_length_le x.f hx2.1.1 hx2.1.2
      have n1 : (A x.l).size ≤ 21 := by rw [hA]; exact Lib.itoa_length_le x.l hx2.2.1.1 hx2.2.1.2
      have n2 : (A x.c).size ≤ 21 := by rw [hA]; exact Lib.itoa_length_le x.c hx2.2.2.1.1 hx2.2.2.1.2
      have n3 : (A x.m).size ≤ 21 := by rw [hA]; exact Lib.itoa_length_le x.m hx2.2.2.2.1 hx2.2.2.2.2
      have g1 : ¬ 9223372036854775807 < (A x.f).size + 1 := by omega
      have g2 : ¬ 9223372036854775807 < (A x.f).size + 1 + (A x.l).size := by omega
      have g3 : ¬ 9223372036854775807 < (A x.f).size + 1 + (A x.l).size + 1 := by omega
      have g4 : ¬ 9223372036854775807 < (A x.f).size + 1 + (A x.l).size + 1 + (A x.c).size := by omega
      have g5 : ¬ 9223372036854775807 < (A x.f).size + 1 + (A x.l).size + 1 + (A x.c).size + 1 := by omega
      have g6 : ¬ 9223372036854775807 < (A x.f).size + 1 + (A x.l).size + 1 + (A x.c).size + 1 + (A x.m).size := by omega
      have g7 : ¬ 9223372036854775807 < (A x.f).size + 1 + (A x.l).size + 1 + (A x.c).size + 1 + (A x.m).size + 1 := by omega
      have g8 : ¬ 9223372036854775807 < Y.size + ((A x.f).size + 1 + (A x.l).size + 1 + (A x.c).size + 1 + (A x.m).size + 1) := by omega
      have CI : Hid (∀ (k : Int) (W : World), I64 k → (Below wr.heap.size wr W ∧ P10 W ∧ Cells W wr.heap.size [.int .i64 x.f, .int .i64 x.l, .int .i64 x.c, .int .i64 x.m]) → Calls Tryd.prog 27 #[.int .i64 k] W fun e w' => e = .returned (.string (A k)) ∧ (Below wr.heap.size wr w' ∧ P10 w' ∧ Cells w' wr.heap.size [.int .i64 x.f, .int .i64 x.l, .int .i64 x.c, .int .i64 x.m])) := fun k W hk hW => by
        rw [hA]
        refine (itoa_any k W hk hW.2.1).mono ?_
        rintro e w' ⟨he, hb⟩
        exact ⟨he, below_then hW.1 hb hW.1.size, hW.2.1.step hb, hW.2.2.step hb⟩
      have HP1 : Hid (P10 wr) := HP.out.step HB.out
      have H0 : Hid (Below wr.heap.size wr (wr.alloc (.cells #[.int .i64 x.f, .int .i64 x.l, .int .i64 x.c, .int .i64 x.m] 33)) ∧ P10 (wr.alloc (.cells #[.int .i64 x.f, .int .i64 x.l, .int .i64 x.c, .int .i64 x.m] 33)) ∧ Cells (wr.alloc (.cells #[.int .i64 x.f, .int .i64 x.l, .int .i64 x.c, .int .i64 x.m] 33)) wr.heap.size [.int .i64 x.f, .int .i64 x.l, .int .i64 x.c, .int .i64 x.m]) := ⟨(Below.refl _ wr).alloc (Nat.le_refl _) _, HP1.out.step ((Below.refl _ wr).alloc (Nat.le_refl _) _), cells_new _ _ _⟩
      have J0 : Hid (I64 x.f) := hx2.1
      have J1 : Hid (I64 x.l) := hx2.2.1
      have J2 : Hid (I64 x.c) := hx2.2.2.1
      have J3 : Hid (I64 x.m) := hx2.2.2.2
      clear hA n0 n1 n2 n3 hY hYs hx hx2
      go_wp2_with fail
      obtain ⟨w1, hw1⟩ : ∃ w1, w1 = wr.alloc (.cells #[.int .i64 x.f, .int .i64 x.l, .int .i64 x.c, .int .i64 x.m] 33) := ⟨_, rfl⟩
      rw [← hw1] at H0 ⊢
      clear hw1 x0 x1 x2 x3
      have H1 : Hid (Below wr.heap.size wr w1.drew ∧ P10 w1.drew ∧ Cells w1.drew wr.heap.size [.int .i64 x.f, .int .i64 x.l, .int .i64 x.c, .int .i64 x.m]) := ⟨H0.out.1.drew, H0.out.2.1.step (Below.refl _ _).drew, H0.out.2.2.drew⟩
      have x0 := H0.out.2.2.cell 0 _ rfl
      have x1 := H0.out.2.2.cell 1 _ rfl
      have x2 := H0.out.2.2.cell 2 _ rfl
      have x3 := H0.out.2.2.cell 3 _ rfl
      go_region_held3 (fun w' => w'.cell? ⟨wr.heap.size, 0, none⟩ = some (.int .i64 x.f) ∧ w'.cell? ⟨wr.heap.size, 1, none⟩ = some (.int .i64 x.l) ∧ w'.cell? ⟨wr.heap.size, 2, none⟩ = some (.int .i64 x.c) ∧ w'.cell? ⟨wr.heap.size, 3, none⟩ = some (.int .i64 x.m)) (go_keep) (first | (go_at_call 27; refine (CI.out _ _ (by first | exact J0.out | exact J1.out | exact J2.out | exact J3.out) (by first | exact H1.out | assumption)).mono ?_; rintro e w2 ⟨rfl, hs⟩; have y0 := hs.2.2.cell 0 _ rfl; have y1 := hs.2.2.cell 1 _ rfl; have y2 := hs.2.2.cell 2 _ rfl; have y3 := hs.2.2.cell 3 _ rfl))
      clear x0 x1 x2 x3 y0 y1 y2 y3 g1 g2 g3 g4 g5 g6 g7 g8
      go_wp2_with fail
      go_roundg (n - (q + 1) + 1)
      case measure => omega
      case rel => exact ⟨q + 1, by rw [← HA.out], by go_num, by omega, by omega, below_then HB.out hs.1 HB.out.size⟩
    · have z1 : ¬ (q : Int) < (n : Int) := by omega
      obtain rfl : q = n := by omega
      go_wp2_with fail
      go_ret
      exact ⟨rfl, HB.out⟩

end Go.Proofs.YtkklinjamcfppaaDoor
