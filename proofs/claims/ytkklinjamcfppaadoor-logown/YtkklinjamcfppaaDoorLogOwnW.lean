/-
  The walk of the law LogOwn.
-/
import Derived.Test.YtkklinjamcfppaaDoorLogText
import Derived.Test.YtkklinjamcfppaaDoorOpenE
import Derived.Test.YtkklinjamcfppaaDoorEntOwn
import Derived.Test.YtkklinjamcfppaaDoorLogPlain
namespace Go.Proofs.YtkklinjamcfppaaDoor.logOwn
open Go.RowKit
set_option linter.unusedVariables false

abbrev Met (w : World) : Prop := P10 w

theorem first (W : World) : Calls Tryd.prog 7 #[.slice none 0 0, .int .i64 5, .int .i64 0, .int .i64 2] W fun e w' => ∃ a' c', e = .returned (.tuple #[.slice a' (1 : Nat) c', .int .i64 0]) ∧ Below W.heap.size W w' := by
  refine (put_any none 0 0 (fun _ => fil) 5 0 2 W ⟨Nat.le_refl _, by unfold maxLen; omega, fun h => absurd h (by omega)⟩).mono ?_
  rintro e w' ⟨a', c', he, hN, hB⟩
  exact ⟨a', c', he, hB⟩
theorem row_only {g : Nat} {w w' : World} {a : Option Addr} {n : Nat} {l : Nat → En} (h : RowE w a n l) (hO : OnlyE g w w') (hne : ∀ b o, a = some ⟨b, o, none⟩ → b ≠ g) : RowE w' a n l := fun hn => by
  obtain ⟨b, o, rfl, h1, h2⟩ := h hn
  have e := hO.block b h1 (hne b o rfl)
  exact ⟨b, o, rfl, Nat.lt_of_lt_of_le h1 hO.size, fun j hj => ⟨(World.cell?_of_block (a := ⟨b, _, none⟩) e).trans (h2 j hj).f, (World.cell?_of_block (a := ⟨b, _, none⟩) e).trans (h2 j hj).l, (World.cell?_of_block (a := ⟨b, _, none⟩) e).trans (h2 j hj).c, (World.cell?_of_block (a := ⟨b, _, none⟩) e).trans (h2 j hj).m⟩⟩
theorem amp_step {N g cap n : Nat} {l : Nat → En} {w w' : World} (h : AmpE N w g cap n l) (hb : Below w.heap.size w w') : AmpE N w' g cap n l :=
  World.ownsRow.kept (row := none) h ⟨hb.os, hb.tape, hb.output, hb.size, fun k hk _ => hb.block k hk⟩ (Or.inr (by simp [Value.ownBlock]))

set_option maxHeartbeats 8000000 in
theorem walk (la : Option Addr) (ln lc : Nat) (l : Nat → En) (n : Int) (k : Int) (code : Int) (w : World) (h_l : RowI w la ln lc l) (h_n : (Lit.int .i64 n).wf = true) (h_k : (Lit.int .i64 k).wf = true) (h_code : (Lit.int .i64 code).wf = true) (h_met : Met w) :
    Calls Tryd.prog 5 #[.slice la ln lc, .int .i64 n, .int .i64 k, .int .i64 code] w fun e w' => e = .returned (.bool true) ∧ Below w.heap.size w w' := by
  have HL : Hid (RowI w la ln lc l) := h_l
  have HP : Hid (P10 w) := h_met
  have hz := h_l.small
  have CA : Hid (∀ W, Below w.heap.size w W → Calls Tryd.prog 15 #[.slice la ln lc, .agg #[.int .i64 77, .int .i64 0, .int .i64 0, .int .i64 0]] W fun e w' => ∃ g cap, e = .returned (.slice (some ⟨g, 0, none⟩) ln cap) ∧ AmpE W.heap.size w' g cap ln l ∧ Below W.heap.size W w') := fun W hW => ampleE_any la ln lc l W ⟨HL.out.rf.step hW, HL.out.small, HL.out.zero, HL.out.i64⟩
  have CS : Hid (∀ (N g cap : Nat) W, Below w.heap.size w W → AmpE N W g cap ln l → Calls Tryd.prog 16 #[.slice (some ⟨g, 0, none⟩) ln cap, .slice la ln lc, .agg #[.int .i64 77, .int .i64 0, .int .i64 0, .int .i64 0]] W fun e w' => e = .returned (.bool true) ∧ Below W.heap.size W w') := fun N g cap W hW hA => staysE_any N g cap ln la lc l W hz hA (HL.out.rf.row.step hW)
  clear h_l h_met h_n h_k h_code
  go_enter Tryd.func5, Tryd.ntmps5
  go_wp2_with fail
  refine (first _).mono ?_
  rintro e w1 ⟨xa, xc, rfl, hb⟩
  have B1 : Hid (Below w.heap.size w w1) := hb
  clear hb
  go_wp2_with fail
  obtain ⟨F, w2, hw2, hF, X2', L2⟩ : ∃ F w2, w1.alloc (.cells #[.int .i64 77, .int .i64 0, .int .i64 0, .int .i64 0] 33) = w2 ∧ w1.heap.size = F ∧ Cells w2 F [.int .i64 77, .int .i64 0, .int .i64 0, .int .i64 0] ∧ Hid (Below w1.heap.size w1 w2) := ⟨_, _, rfl, rfl, cells_new _ _ _, (Below.refl _ w1).alloc (Nat.le_refl _) _⟩
  rw [hw2, hF]
  have X2 : Hid (Cells w2 F [.int .i64 77, .int .i64 0, .int .i64 0, .int .i64 0]) := X2'
  have B2 : Hid (Below w.heap.size w w2) := below_then B1.out L2.out B1.out.size
  clear hw2 hF X2' L2
  refine (CA.out _ B2.out).mono ?_
  rintro e w3 ⟨g, cap, rfl, hA, hb⟩
  have X3 : Hid (_) := X2.out.step hb
  have A3 : Hid (_) := hA
  have hg : w2.heap.size ≤ g := hA.row.2.2.1
  have hF2 : F < w2.heap.size := X2.out.lt
  have B3 : Hid (Below w.heap.size w w3) := below_then B2.out hb B2.out.size
  have hg3 : g < w3.heap.size := hA.row.2.2.2.1
  clear hA hb X2
  obtain ⟨q1, q2, _, _, _, _, kr⟩ := AmpE.row A3.out
  have CP := put_any (some ⟨g, 0, none⟩) ln cap l n k code w3 ⟨by omega, q2, kr⟩
  obtain ⟨E, hE⟩ : ∃ E, putR l ln ⟨n, k, code, 1⟩ = E := ⟨_, rfl⟩
  obtain ⟨N, hN⟩ : ∃ N, (if putR l ln ⟨n, k, code, 1⟩ = 0 then putN l ln ⟨n, k, code, 1⟩ else 0) = N := ⟨_, rfl⟩
  obtain ⟨L, hL⟩ : ∃ L, putL l ln ⟨n, k, code, 1⟩ = L := ⟨_, rfl⟩
  have hN32 : N ≤ 32 := by
    rw [← hN]
    split
    · rename_i q
      exact (made_of rfl q).le
    · omega
  rw [hN, hE, hL] at CP
  have HKR : Hid (RowE w3 (some ⟨g, 0, none⟩) ln l) := kr
  have q2b : cap ≤ 9223372036854775807 := by unfold maxLen at q2; omega
  have q3 : (ln : Int) ≤ (cap : Int) := by omega
  clear hN hE hL q2 kr
  go_wp2_with fail
  refine CP.mono ?_
  rintro e w4 ⟨pa, pc, rfl, hn, hb⟩
  have N4 : Hid (NwE w3.heap.size w4 pa N pc L) := hn
  have S4 : Hid (Below w3.heap.size w3 w4) := hb
  have B4 : Hid (Below w.heap.size w w4) := below_then B3.out hb B3.out.size
  clear hn hb CP
  go_wp2_with fail
  refine (text_any (some ⟨g, 0, none⟩) ln cap l w4 (HKR.out.step S4.out) (HP.out.step B4.out)).mono ?_
  rintro e w5 ⟨rfl, hb⟩
  have S5 : Hid (Below w3.heap.size w3 w5) := below_then S4.out hb S4.out.size
  have N5 : Hid (_) := N4.out.step hb
  have B5 : Hid (Below w.heap.size w w5) := below_then B4.out hb B4.out.size
  clear hb N4 S4
  have X5 : Hid (_) := X3.out.step S5.out
  have y0 := X5.out.cell 0 _ rfl
  have y1 := X5.out.cell 1 _ rfl
  have y2 := X5.out.cell 2 _ rfl
  have y3 := X5.out.cell 3 _ rfl
  go_wp2_with fail
  refine (CS.out _ g cap w5 B5.out (amp_step A3.out S5.out)).mono ?_
  rintro e w6 ⟨rfl, hb⟩
  have S6 : Hid (Below w3.heap.size w3 w6) := below_then S5.out hb S5.out.size
  have N6 : Hid (_) := N5.out.step hb
  have B6 : Hid (Below w.heap.size w w6) := below_then B5.out hb B5.out.size
  clear hb N5 S5 X5 y0 y1 y2 y3
  go_wp2_with fail
  refine (cloneE_any pa N pc L w6 (by omega) N6.out.row).mono ?_
  rintro e w7 ⟨v, rfl, hv, hb⟩
  obtain ⟨va, vc, rfl, hv2⟩ := OwE.nw hv
  have V7 : Hid (NwE w6.heap.size w7 va N vc L) := hv2
  have S7 : Hid (Below w3.heap.size w3 w7) := below_then S6.out hb S6.out.size
  have N7 : Hid (_) := N6.out.step hb
  have B7 : Hid (Below w.heap.size w w7) := below_then B6.out hb B6.out.size
  have h67 := hb.size
  have h36 := S6.out.size
  clear hv hv2 hb
  have h37 := S7.out.size
  have CF : Hid (Calls Tryd.prog 18 #[.slice (some ⟨g, 0, none⟩) ln cap, .agg #[.int .i64 0, .int .i64 0, .int .i64 0, .int .i64 0]] w7 fun e w' => e = .returned (.tuple #[]) ∧ OnlyE g w7 w') := spoilE_any g ln cap ⟨0, 0, 0, 0⟩ w7 (by omega) q2b (AmpE.full (amp_step A3.out S7.out))
  go_wp2_with fail
  refine CF.out.mono ?_
  rintro e w8 ⟨rfl, hO⟩
  have R8 : Hid (RowE w8 pa N L ∧ RowE w8 va N L) := ⟨row_only N7.out.row hO (fun b o e => by
    obtain ⟨g', e2, h1, _⟩ := N7.out.blk _ e
    simp only [Addr.mk.injEq] at e2
    omega), row_only V7.out.row hO (fun b o e => by
    obtain ⟨g', e2, h1, _⟩ := V7.out.blk _ e
    simp only [Addr.mk.injEq] at e2
    omega)⟩
  have B8 : Hid (Below w.heap.size w w8) := below_then B7.out (hO.below (N := w.heap.size) (by have := B2.out.size; omega) B7.out.size) (Nat.le_refl _)
  clear hO
  have CE := equalE_any pa va N pc vc L L w8 (by omega) R8.out.1 R8.out.2
  rw [eqR_same (fun _ _ => rfl)] at CE
  go_wp2_with fail
  refine CE.mono ?_
  rintro e w9 ⟨rfl, hb⟩
  have B9 : Hid (Below w.heap.size w w9) := below_then B8.out hb B8.out.size
  clear hb
  go_wp2_with fail
  go_ret
  exact ⟨rfl, B9.out⟩

end Go.Proofs.YtkklinjamcfppaaDoor.logOwn
