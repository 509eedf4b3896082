/-
  Contract of link.Hear, way by way.
-/
import Derived.Test.YtiaolelkabbnmaaLnkHear
namespace Go.Proofs.Ytiaolelkabbnmaa
open Go.RowKit
set_option linter.unusedVariables false
set_option linter.unusedSimpArgs false

set_option maxHeartbeats 2000000 in
set_option maxRecDepth 100000 in
theorem hear_bad (K L S : Int) (a : Option Addr) (n c : Nat) (h : Bool) (A B E : Int) (s : ByteArray) (w : World) (hE : lkE K L S n h A B = E) (h0 : E ≠ 0) :
    Calls Try.prog 9 #[.agg #[.int .i64 K, .int .i64 L, .int .u8 S, .slice a n c, .bool h, .int .i64 A, .int .i64 B], .string s] w fun e w' => e = .returned (.tuple #[.agg #[.int .i64 0, .int .i64 0, .int .u8 0, .slice none 0 0, .bool false, .int .i64 0, .int .i64 0], .int .i64 E]) ∧ Below w.heap.size w w' := by
  have B0 : Hid (Lb w [.int .i64 K, .int .i64 L, .int .u8 S, .slice a n c, .bool h, .int .i64 A, .int .i64 B] _) := lb_new w (.int .i64 K) (.int .i64 L) (.int .u8 S) (.slice a n c) (.bool h) (.int .i64 A) (.int .i64 B) 26
  have HC : Hid (∀ W, Calls Try.prog 12 #[.agg #[.int .i64 K, .int .i64 L, .int .u8 S, .slice a n c, .bool h, .int .i64 A, .int .i64 B]] W fun e w' => e = .returned (.int .i64 E) ∧ Below W.heap.size W w') := fun W => by rw [← hE]; exact lcheck_any K L S a n c h A B W
  have q : (E != 0) = true := by simpa using h0
  clear hE h0
  go_enter Try.func9, Try.ntmps9
  go_wp2_with fail
  refine (HC.out _).mono ?_
  rintro e w1 ⟨rfl, hb⟩
  have X1 : Hid (Lb w [.int .i64 K, .int .i64 L, .int .u8 S, .slice a n c, .bool h, .int .i64 A, .int .i64 B] w1) := B0.out.step hb
  clear B0 hb
  obtain ⟨ly, y0, y1, y2, y3, y4, y5, y6⟩ := link_cells X1.out.out
  obtain ⟨k0, k1, k2, k3, k4, k5, k6⟩ := link_froz X1.out.out
  go_wp2_with fail
  clear ly y0 y1 y2 y3 y4 y5 y6 k0 k1 k2 k3 k4 k5 k6
  obtain ⟨w3, hw3, C3, b3, s3, o3⟩ := X1.out.put (.int .i64 0) (.int .i64 0) (.int .u8 0) (.slice none 0 0) (.bool false) (.int .i64 0) (.int .i64 0)
  rw [hw3]
  obtain ⟨ly, y0, y1, y2, y3, y4, y5, y6⟩ := link_cells C3
  refine bodyPost_ret (by simp [results, Try.results9, go_sem, y0, y1, y2, y3, y4, y5, y6]; try rfl) rfl ?_
  exact ⟨rfl, b3⟩

set_option maxHeartbeats 2000000 in
set_option maxRecDepth 100000 in
theorem hear_read (K L S : Int) (a : Option Addr) (n c : Nat) (l : Nat → Int) (h : Bool) (A B E : Int) (s : ByteArray) (w : World) (hE : lkE K L S n h A B = 0) (hr : Wds w a n l) (hs : s.size ≤ 140737488351232) (hF : rdE s = E) (h0 : E ≠ 0) :
    Calls Try.prog 9 #[.agg #[.int .i64 K, .int .i64 L, .int .u8 S, .slice a n c, .bool h, .int .i64 A, .int .i64 B], .string s] w fun e w' => ∃ g, e = .returned (.tuple #[.agg #[.int .i64 K, .int .i64 L, .int .u8 S, .slice (some ⟨g, 0, none⟩) n n, .bool h, .int .i64 A, .int .i64 (upB B)], .int .i64 E]) ∧ Wds w' (some ⟨g, 0, none⟩) n l ∧ w.heap.size ≤ g ∧ Below w.heap.size w w' := by
  have B0 : Hid (Lb w [.int .i64 K, .int .i64 L, .int .u8 S, .slice a n c, .bool h, .int .i64 A, .int .i64 B] _) := lb_new w (.int .i64 K) (.int .i64 L) (.int .u8 S) (.slice a n c) (.bool h) (.int .i64 A) (.int .i64 B) 26
  have HC : Hid (∀ W, Calls Try.prog 12 #[.agg #[.int .i64 K, .int .i64 L, .int .u8 S, .slice a n c, .bool h, .int .i64 A, .int .i64 B]] W fun e w' => e = .returned (.int .i64 0) ∧ Below W.heap.size W w') := fun W => by rw [← hE]; exact lcheck_any K L S a n c h A B W
  have HD : Hid (∀ W, Calls Try.prog 17 #[.string s] W fun e w' => ∃ a c, e = .returned (.tuple #[.agg #[.int .i64 (rdF s).K, .int .i64 (rdF s).L, .int .u8 (rdF s).S, .slice a (rdF s).n c], .int .i64 E]) ∧ Below W.heap.size W w') := fun W => by
    rw [← hF]
    refine (read_any s W hs).mono ?_
    rintro e w' ⟨a, c, h1, _, _, h2⟩
    exact ⟨a, c, h1, h2⟩
  generalize rdF s = f at HD
  obtain ⟨fK, fL, fS, fn, fl⟩ := f
  simp only at HD
  have q : (E != 0) = true := by simpa using h0
  obtain ⟨_, _, b0, b1, hn, _, _⟩ := lkE_zero hE
  have HP : Hid (∀ W, Wds W a n l → Calls Try.prog 27 #[.agg #[.int .i64 K, .int .i64 L, .int .u8 S, .slice a n c, .bool h, .int .i64 A, .int .i64 B]] W fun e w' => ∃ g, e = .returned (.agg #[.int .i64 K, .int .i64 L, .int .u8 S, .slice (some ⟨g, 0, none⟩) n n, .bool h, .int .i64 A, .int .i64 (upB B)]) ∧ Wds w' (some ⟨g, 0, none⟩) n l ∧ W.heap.size ≤ g ∧ g < w'.heap.size ∧ Below W.heap.size W w') := fun W hW => spoilt_any K L S a n c l h A B W (by omega) b0 b1 hW
  generalize upB B = m at HP
  have HR : Hid (Wds w a n l) := hr
  clear hE h0 hF hr hs b0 b1 hn
  go_enter Try.func9, Try.ntmps9
  go_wp2_with fail
  refine (HC.out _).mono ?_
  rintro e w1 ⟨rfl, hb⟩
  have X1 : Hid (Lb w [.int .i64 K, .int .i64 L, .int .u8 S, .slice a n c, .bool h, .int .i64 A, .int .i64 B] w1) := B0.out.step hb
  clear B0 hb
  go_wp2_with fail
  refine (HD.out _).mono ?_
  rintro e w2 ⟨fa, fc, rfl, hb⟩
  have X2 : Hid (Lb w [.int .i64 K, .int .i64 L, .int .u8 S, .slice a n c, .bool h, .int .i64 A, .int .i64 B] w2) := X1.out.step hb
  clear X1 hb
  have X3 : Hid (Lb w [.int .i64 K, .int .i64 L, .int .u8 S, .slice a n c, .bool h, .int .i64 A, .int .i64 B] (w2.alloc (.cells #[.int .i64 fK, .int .i64 fL, .int .u8 fS, .slice fa fn fc] 24))) := X2.out.step ((Below.refl _ w2).alloc (Nat.le_refl _) _)
  obtain ⟨lx, x0, x1, x2, x3, x4, x5, x6⟩ := link_cells X2.out.box
  clear X2
  go_wp2_with fail
  clear lx x0 x1 x2 x3 x4 x5 x6
  generalize w2.alloc (.cells #[.int .i64 fK, .int .i64 fL, .int .u8 fS, .slice fa fn fc] 24) = w3 at X3 ⊢
  refine (HP.out _ (HR.out.later X3.out.bel)).mono ?_
  rintro e w4 ⟨g, rfl, hw, hg, hlt, hb⟩
  have X4 : Hid (Lb w [.int .i64 K, .int .i64 L, .int .u8 S, .slice a n c, .bool h, .int .i64 A, .int .i64 B] w4) := X3.out.step hb
  have HG : Hid (w.heap.size + 2 ≤ g ∧ Wds w4 (some ⟨g, 0, none⟩) n l) := ⟨by have := X3.out.out.lt; omega, hw⟩
  clear X3 hb hw hg hlt
  obtain ⟨ly, y0, y1, y2, y3, y4, y5, y6⟩ := link_cells X4.out.out
  obtain ⟨k0, k1, k2, k3, k4, k5, k6⟩ := link_froz X4.out.out
  go_wp2_with fail
  clear ly y0 y1 y2 y3 y4 y5 y6 k0 k1 k2 k3 k4 k5 k6
  obtain ⟨w5, hw5, C5, b5, s5, o5⟩ := X4.out.put (.int .i64 K) (.int .i64 L) (.int .u8 S) (.slice (some ⟨g, 0, none⟩) n n) (.bool h) (.int .i64 A) (.int .i64 m)
  rw [hw5]
  obtain ⟨ly, y0, y1, y2, y3, y4, y5, y6⟩ := link_cells C5
  refine bodyPost_ret (by simp [results, Try.results9, go_sem, y0, y1, y2, y3, y4, y5, y6]; try rfl) rfl ?_
  exact ⟨g, rfl, HG.out.2.block (by rw [s5]; exact Nat.le_refl _) (o5 g (by have := HG.out.1; omega)), by have := HG.out.1; omega, b5⟩

set_option maxHeartbeats 2000000 in
set_option maxRecDepth 100000 in
theorem hear_stale (K L S : Int) (a : Option Addr) (n c : Nat) (l : Nat → Int) (h : Bool) (A B : Int) (s : ByteArray) (w : World) (hE : lkE K L S n h A B = 0) (hr : Wds w a n l) (hs : s.size ≤ 140737488351232) (hF : rdE s = 0) (hq : (h && decide (A < 100) && !newB (rdF s).S S) = true) :
    Calls Try.prog 9 #[.agg #[.int .i64 K, .int .i64 L, .int .u8 S, .slice a n c, .bool h, .int .i64 A, .int .i64 B], .string s] w fun e w' => ∃ g, e = .returned (.tuple #[.agg #[.int .i64 K, .int .i64 L, .int .u8 S, .slice (some ⟨g, 0, none⟩) n n, .bool h, .int .i64 A, .int .i64 (upB B)], .int .i64 6]) ∧ Wds w' (some ⟨g, 0, none⟩) n l ∧ w.heap.size ≤ g ∧ Below w.heap.size w w' := by
  have B0 : Hid (Lb w [.int .i64 K, .int .i64 L, .int .u8 S, .slice a n c, .bool h, .int .i64 A, .int .i64 B] _) := lb_new w (.int .i64 K) (.int .i64 L) (.int .u8 S) (.slice a n c) (.bool h) (.int .i64 A) (.int .i64 B) 26
  have HC : Hid (∀ W, Calls Try.prog 12 #[.agg #[.int .i64 K, .int .i64 L, .int .u8 S, .slice a n c, .bool h, .int .i64 A, .int .i64 B]] W fun e w' => e = .returned (.int .i64 0) ∧ Below W.heap.size W w') := fun W => by rw [← hE]; exact lcheck_any K L S a n c h A B W
  have HD : Hid (∀ W, Calls Try.prog 17 #[.string s] W fun e w' => ∃ a c, e = .returned (.tuple #[.agg #[.int .i64 (rdF s).K, .int .i64 (rdF s).L, .int .u8 (rdF s).S, .slice a (rdF s).n c], .int .i64 0]) ∧ Below W.heap.size W w') := fun W => by
    rw [← hF]
    refine (read_any s W hs).mono ?_
    rintro e w' ⟨a, c, h1, _, _, h2⟩
    exact ⟨a, c, h1, h2⟩
  have HQ : Hid (∀ (a' : Option Addr) (c' : Nat) W, Calls Try.prog 28 #[.agg #[.int .i64 K, .int .i64 L, .int .u8 S, .slice a n c, .bool h, .int .i64 A, .int .i64 B], .agg #[.int .i64 (rdF s).K, .int .i64 (rdF s).L, .int .u8 (rdF s).S, .slice a' (rdF s).n c']] W fun e w' => e = .returned (.bool true) ∧ Below W.heap.size W w') := fun a' c' W => by
    rw [← hq]
    exact stale_any K L S a n c h A B (rdF s).K (rdF s).L (rdF s).S a' (rdF s).n c' W
  clear hq
  generalize rdF s = f at HD HQ
  obtain ⟨fK, fL, fS, fn, fl⟩ := f
  simp only at HD HQ
  obtain ⟨_, _, b0, b1, hn, _, _⟩ := lkE_zero hE
  have HP : Hid (∀ W, Wds W a n l → Calls Try.prog 27 #[.agg #[.int .i64 K, .int .i64 L, .int .u8 S, .slice a n c, .bool h, .int .i64 A, .int .i64 B]] W fun e w' => ∃ g, e = .returned (.agg #[.int .i64 K, .int .i64 L, .int .u8 S, .slice (some ⟨g, 0, none⟩) n n, .bool h, .int .i64 A, .int .i64 (upB B)]) ∧ Wds w' (some ⟨g, 0, none⟩) n l ∧ W.heap.size ≤ g ∧ g < w'.heap.size ∧ Below W.heap.size W w') := fun W hW => spoilt_any K L S a n c l h A B W (by omega) b0 b1 hW
  generalize upB B = m at HP
  have HR : Hid (Wds w a n l) := hr
  clear hE hF hr hs b0 b1 hn
  go_enter Try.func9, Try.ntmps9
  go_wp2_with fail
  refine (HC.out _).mono ?_
  rintro e w1 ⟨rfl, hb⟩
  have X1 : Hid (Lb w [.int .i64 K, .int .i64 L, .int .u8 S, .slice a n c, .bool h, .int .i64 A, .int .i64 B] w1) := B0.out.step hb
  clear B0 hb
  go_wp2_with fail
  refine (HD.out _).mono ?_
  rintro e w2 ⟨fa, fc, rfl, hb⟩
  have X2 : Hid (Lb w [.int .i64 K, .int .i64 L, .int .u8 S, .slice a n c, .bool h, .int .i64 A, .int .i64 B] w2) := X1.out.step hb
  clear X1 hb
  have X3 : Hid (Lb w [.int .i64 K, .int .i64 L, .int .u8 S, .slice a n c, .bool h, .int .i64 A, .int .i64 B] (w2.alloc (.cells #[.int .i64 fK, .int .i64 fL, .int .u8 fS, .slice fa fn fc] 24))) := X2.out.step ((Below.refl _ w2).alloc (Nat.le_refl _) _)
  obtain ⟨lx, x0, x1, x2, x3, x4, x5, x6⟩ := link_cells X2.out.box
  clear X2
  go_wp2_with fail
  clear lx x0 x1 x2 x3 x4 x5 x6
  generalize w2.alloc (.cells #[.int .i64 fK, .int .i64 fL, .int .u8 fS, .slice fa fn fc] 24) = w3 at X3 ⊢
  refine (HQ.out fa fc _).mono ?_
  rintro e w6 ⟨rfl, hb⟩
  have X6 : Hid (Lb w [.int .i64 K, .int .i64 L, .int .u8 S, .slice a n c, .bool h, .int .i64 A, .int .i64 B] w6) := X3.out.step hb
  clear X3 hb
  obtain ⟨lx, x0, x1, x2, x3, x4, x5, x6⟩ := link_cells X6.out.box
  go_wp2_with fail
  clear lx x0 x1 x2 x3 x4 x5 x6
  refine (HP.out _ (HR.out.later X6.out.bel)).mono ?_
  rintro e w4 ⟨g, rfl, hw, hg, hlt, hb⟩
  have X4 : Hid (Lb w [.int .i64 K, .int .i64 L, .int .u8 S, .slice a n c, .bool h, .int .i64 A, .int .i64 B] w4) := X6.out.step hb
  have HG : Hid (w.heap.size + 2 ≤ g ∧ Wds w4 (some ⟨g, 0, none⟩) n l) := ⟨by have := X6.out.out.lt; omega, hw⟩
  clear X6 hb hw hg hlt
  obtain ⟨ly, y0, y1, y2, y3, y4, y5, y6⟩ := link_cells X4.out.out
  obtain ⟨k0, k1, k2, k3, k4, k5, k6⟩ := link_froz X4.out.out
  go_wp2_with fail
  clear ly y0 y1 y2 y3 y4 y5 y6 k0 k1 k2 k3 k4 k5 k6
  obtain ⟨w5, hw5, C5, b5, s5, o5⟩ := X4.out.put (.int .i64 K) (.int .i64 L) (.int .u8 S) (.slice (some ⟨g, 0, none⟩) n n) (.bool h) (.int .i64 A) (.int .i64 m)
  rw [hw5]
  obtain ⟨ly, y0, y1, y2, y3, y4, y5, y6⟩ := link_cells C5
  refine bodyPost_ret (by simp [results, Try.results9, go_sem, y0, y1, y2, y3, y4, y5, y6]; try rfl) rfl ?_
  exact ⟨g, rfl, HG.out.2.block (by rw [s5]; exact Nat.le_refl _) (o5 g (by have := HG.out.1; omega)), by have := HG.out.1; omega, b5⟩

set_option maxHeartbeats 2000000 in
set_option maxRecDepth 100000 in
theorem hear_new (K L S : Int) (a : Option Addr) (n c : Nat) (h : Bool) (A B : Int) (s : ByteArray) (w : World) (hE : lkE K L S n h A B = 0) (hs : s.size ≤ 140737488351232) (hF : rdE s = 0) (hq : (h && decide (A < 100) && !newB (rdF s).S S) = false) :
    Calls Try.prog 9 #[.agg #[.int .i64 K, .int .i64 L, .int .u8 S, .slice a n c, .bool h, .int .i64 A, .int .i64 B], .string s] w fun e w' => ∃ a c, e = .returned (.tuple #[.agg #[.int .i64 (rdF s).K, .int .i64 (rdF s).L, .int .u8 (rdF s).S, .slice a (rdF s).n c, .bool true, .int .i64 0, .int .i64 B], .int .i64 0]) ∧ Wds w' a (rdF s).n (rdF s).l ∧ (∀ x, a = some x → w.heap.size ≤ x.block) ∧ Below w.heap.size w w' := by
  have B0 : Hid (Lb w [.int .i64 K, .int .i64 L, .int .u8 S, .slice a n c, .bool h, .int .i64 A, .int .i64 B] _) := lb_new w (.int .i64 K) (.int .i64 L) (.int .u8 S) (.slice a n c) (.bool h) (.int .i64 A) (.int .i64 B) 26
  have HC : Hid (∀ W, Calls Try.prog 12 #[.agg #[.int .i64 K, .int .i64 L, .int .u8 S, .slice a n c, .bool h, .int .i64 A, .int .i64 B]] W fun e w' => e = .returned (.int .i64 0) ∧ Below W.heap.size W w') := fun W => by rw [← hE]; exact lcheck_any K L S a n c h A B W
  have HD : Hid (∀ W, Calls Try.prog 17 #[.string s] W fun e w' => ∃ a c, e = .returned (.tuple #[.agg #[.int .i64 (rdF s).K, .int .i64 (rdF s).L, .int .u8 (rdF s).S, .slice a (rdF s).n c], .int .i64 0]) ∧ Wds w' a (rdF s).n (rdF s).l ∧ (∀ x, a = some x → W.heap.size < x.block) ∧ Below W.heap.size W w') := fun W => by
    rw [← hF]
    exact read_any s W hs
  have HQ : Hid (∀ (a' : Option Addr) (c' : Nat) W, Calls Try.prog 28 #[.agg #[.int .i64 K, .int .i64 L, .int .u8 S, .slice a n c, .bool h, .int .i64 A, .int .i64 B], .agg #[.int .i64 (rdF s).K, .int .i64 (rdF s).L, .int .u8 (rdF s).S, .slice a' (rdF s).n c']] W fun e w' => e = .returned (.bool false) ∧ Below W.heap.size W w') := fun a' c' W => by
    rw [← hq]
    exact stale_any K L S a n c h A B (rdF s).K (rdF s).L (rdF s).S a' (rdF s).n c' W
  clear hq
  generalize rdF s = f at HD HQ ⊢
  obtain ⟨fK, fL, fS, fn, fl⟩ := f
  simp only at HD HQ ⊢
  clear hE hF hs
  go_enter Try.func9, Try.ntmps9
  go_wp2_with fail
  refine (HC.out _).mono ?_
  rintro e w1 ⟨rfl, hb⟩
  have X1 : Hid (Lb w [.int .i64 K, .int .i64 L, .int .u8 S, .slice a n c, .bool h, .int .i64 A, .int .i64 B] w1) := B0.out.step hb
  clear B0 hb
  go_wp2_with fail
  refine (HD.out _).mono ?_
  rintro e w2 ⟨fa, fc, rfl, hw, ha, hb⟩
  have X2 : Hid (Lb w [.int .i64 K, .int .i64 L, .int .u8 S, .slice a n c, .bool h, .int .i64 A, .int .i64 B] w2) := X1.out.step hb
  have HG : Hid (Wds w2 fa fn fl ∧ ∀ x, fa = some x → w.heap.size + 2 ≤ x.block) := ⟨hw, fun x hx => by have := ha x hx; have := X1.out.out.lt; omega⟩
  clear X1 hb hw ha
  have bw := (Below.refl _ w2).alloc (Nat.le_refl _) (.cells #[.int .i64 fK, .int .i64 fL, .int .u8 fS, .slice fa fn fc] 24)
  have X3 : Hid (Lb w [.int .i64 K, .int .i64 L, .int .u8 S, .slice a n c, .bool h, .int .i64 A, .int .i64 B] (w2.alloc (.cells #[.int .i64 fK, .int .i64 fL, .int .u8 fS, .slice fa fn fc] 24))) := X2.out.step bw
  have Y3 : Hid (Cells (w2.alloc (.cells #[.int .i64 fK, .int .i64 fL, .int .u8 fS, .slice fa fn fc] 24)) w2.heap.size [.int .i64 fK, .int .i64 fL, .int .u8 fS, .slice fa fn fc]) := cells_new w2 _ _
  have G3 : Hid (Wds (w2.alloc (.cells #[.int .i64 fK, .int .i64 fL, .int .u8 fS, .slice fa fn fc] 24)) fa fn fl ∧ ∀ x, fa = some x → w.heap.size + 2 ≤ x.block) := ⟨HG.out.1.later bw, HG.out.2⟩
  obtain ⟨lx, x0, x1, x2, x3, x4, x5, x6⟩ := link_cells X2.out.box
  clear X2 HG bw
  go_wp2_with fail
  clear lx x0 x1 x2 x3 x4 x5 x6
  generalize w2.alloc (.cells #[.int .i64 fK, .int .i64 fL, .int .u8 fS, .slice fa fn fc] 24) = w3 at X3 Y3 G3 ⊢
  generalize w2.heap.size = p at Y3 ⊢
  refine (HQ.out fa fc _).mono ?_
  rintro e w4 ⟨rfl, hb⟩
  have X4 : Hid (Lb w [.int .i64 K, .int .i64 L, .int .u8 S, .slice a n c, .bool h, .int .i64 A, .int .i64 B] w4) := X3.out.step hb
  have Y4 : Hid (Cells w4 p [.int .i64 fK, .int .i64 fL, .int .u8 fS, .slice fa fn fc]) := Y3.out.step hb
  have G4 : Hid (Wds w4 fa fn fl ∧ ∀ x, fa = some x → w.heap.size + 2 ≤ x.block) := ⟨G3.out.1.later hb, G3.out.2⟩
  clear X3 Y3 G3 hb
  obtain ⟨lz, z0, z1, z2, z3⟩ := (⟨Y4.out.lt, Y4.out.cell 0 _ rfl, Y4.out.cell 1 _ rfl, Y4.out.cell 2 _ rfl, Y4.out.cell 3 _ rfl⟩ : p < w4.heap.size ∧ w4.cell? ⟨p, 0, none⟩ = some (.int .i64 fK) ∧ w4.cell? ⟨p, 1, none⟩ = some (.int .i64 fL) ∧ w4.cell? ⟨p, 2, none⟩ = some (.int .u8 fS) ∧ w4.cell? ⟨p, 3, none⟩ = some (.slice fa fn fc))
  obtain ⟨lx, x0, x1, x2, x3, x4, x5, x6⟩ := link_cells X4.out.box
  obtain ⟨ly, y0, y1, y2, y3, y4, y5, y6⟩ := link_cells X4.out.out
  obtain ⟨k0, k1, k2, k3, k4, k5, k6⟩ := link_froz X4.out.out
  go_wp2_with fail
  clear lx x0 x1 x2 x3 x4 x5 x6 ly y0 y1 y2 y3 y4 y5 y6 k0 k1 k2 k3 k4 k5 k6 lz z0 z1 z2 z3
  obtain ⟨w5, hw5, C5, b5, s5, o5⟩ := X4.out.put (.int .i64 fK) (.int .i64 fL) (.int .u8 fS) (.slice fa fn fc) (.bool true) (.int .i64 0) (.int .i64 B)
  rw [hw5]
  obtain ⟨ly, y0, y1, y2, y3, y4, y5, y6⟩ := link_cells C5
  refine bodyPost_ret (by simp [results, Try.results9, go_sem, y0, y1, y2, y3, y4, y5, y6]; try rfl) rfl ?_
  refine ⟨fa, fc, rfl, ?_, fun x hx => by have := G4.out.2 x hx; omega, b5⟩
  intro hn
  obtain ⟨b, o, rfl, hlt, hrow⟩ := G4.out.1 hn
  have hx := G4.out.2 _ rfl
  have hw6 : Wds w4 (some ⟨b, o, none⟩) fn fl := fun _ => ⟨b, o, rfl, hlt, hrow⟩
  exact hw6.block (w' := w5) (by rw [s5]; exact Nat.le_refl _) (o5 b (by simp only at hx; omega)) hn

end Go.Proofs.Ytiaolelkabbnmaa
