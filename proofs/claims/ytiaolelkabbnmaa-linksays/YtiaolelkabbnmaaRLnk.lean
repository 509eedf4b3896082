/-
  Contracts of the document's SameLink, where two links are one, and of its Hear.
-/
import Derived.Test.YtiaolelkabbnmaaLnkAll
namespace Go.Proofs.Ytiaolelkabbnmaa
open Go.RowKit
set_option linter.unusedVariables false
set_option linter.unusedSimpArgs false

set_option maxHeartbeats 2000000 in
set_option maxRecDepth 100000 in
theorem samelink_any (x : Lk) (a1 a2 : Option Addr) (c1 c2 : Nat) (w : World) (hn : x.F.n ≤ 70368744177664) (h1 : Wds w a1 x.F.n x.F.l) (h2 : Wds w a2 x.F.n x.F.l) :
    Calls Try.prog 13 #[.agg #[.int .i64 x.F.K, .int .i64 x.F.L, .int .u8 x.F.S, .slice a1 x.F.n c1, .bool x.h, .int .i64 x.A, .int .i64 x.B], .agg #[.int .i64 x.F.K, .int .i64 x.F.L, .int .u8 x.F.S, .slice a2 x.F.n c2, .bool x.h, .int .i64 x.A, .int .i64 x.B]] w fun e w' => e = .returned (.bool true) ∧ Below w.heap.size w w' := by
  have HS : Hid (∀ W, Below w.heap.size w W → Calls Try.prog 18 #[.agg #[.int .i64 x.F.K, .int .i64 x.F.L, .int .u8 x.F.S, .slice a1 x.F.n c1], .agg #[.int .i64 x.F.K, .int .i64 x.F.L, .int .u8 x.F.S, .slice a2 x.F.n c2]] W fun e w' => e = .returned (.bool true) ∧ Below W.heap.size W w') := fun W hb => by
    have h := same_any x.F x.F a1 a2 c1 c2 W hn (h1.later hb) (h2.later hb)
    rw [frSame_refl _ _ rfl rfl rfl rfl (fun _ _ => rfl)] at h
    exact h
  obtain ⟨⟨K, L, S, n, l⟩, h, A, B⟩ := x
  simp only at HS ⊢
  clear hn h1 h2
  have X0 : Hid (Cells ((w.alloc (.cells #[.int .i64 K, .int .i64 L, .int .u8 S, .slice a1 n c1, .bool h, .int .i64 A, .int .i64 B] 26)).alloc (.cells #[.int .i64 K, .int .i64 L, .int .u8 S, .slice a2 n c2, .bool h, .int .i64 A, .int .i64 B] 26)) w.heap.size [.int .i64 K, .int .i64 L, .int .u8 S, .slice a1 n c1, .bool h, .int .i64 A, .int .i64 B]) := (cells_new w _ _).alloc _
  have Y0 : Hid (Cells ((w.alloc (.cells #[.int .i64 K, .int .i64 L, .int .u8 S, .slice a1 n c1, .bool h, .int .i64 A, .int .i64 B] 26)).alloc (.cells #[.int .i64 K, .int .i64 L, .int .u8 S, .slice a2 n c2, .bool h, .int .i64 A, .int .i64 B] 26)) (w.heap.size + 1) [.int .i64 K, .int .i64 L, .int .u8 S, .slice a2 n c2, .bool h, .int .i64 A, .int .i64 B]) := by
    have := cells_new (w.alloc (.cells #[.int .i64 K, .int .i64 L, .int .u8 S, .slice a1 n c1, .bool h, .int .i64 A, .int .i64 B] 26)) #[.int .i64 K, .int .i64 L, .int .u8 S, .slice a2 n c2, .bool h, .int .i64 A, .int .i64 B] 26
    rw [show (w.alloc (.cells #[.int .i64 K, .int .i64 L, .int .u8 S, .slice a1 n c1, .bool h, .int .i64 A, .int .i64 B] 26)).heap.size = w.heap.size + 1 by simp] at this
    exact this
  have B0 : Hid (Below w.heap.size w ((w.alloc (.cells #[.int .i64 K, .int .i64 L, .int .u8 S, .slice a1 n c1, .bool h, .int .i64 A, .int .i64 B] 26)).alloc (.cells #[.int .i64 K, .int .i64 L, .int .u8 S, .slice a2 n c2, .bool h, .int .i64 A, .int .i64 B] 26))) := ((Below.refl _ w).alloc (Nat.le_refl _) _).alloc (by simp) _
  have hh : (h == h) = true := by simp
  go_enter Try.func13, Try.ntmps13
  go_wp2_with fail
  refine (HS.out _ B0.out).mono ?_
  rintro e w1 ⟨rfl, hb⟩
  have X1 : Hid (Cells w1 w.heap.size [.int .i64 K, .int .i64 L, .int .u8 S, .slice a1 n c1, .bool h, .int .i64 A, .int .i64 B]) := X0.out.step hb
  have Y1 : Hid (Cells w1 (w.heap.size + 1) [.int .i64 K, .int .i64 L, .int .u8 S, .slice a2 n c2, .bool h, .int .i64 A, .int .i64 B]) := Y0.out.step hb
  have B1 : Hid (Below w.heap.size w w1) := B0.out.trans (hb.mono B0.out.size)
  clear hb X0 Y0 B0
  obtain ⟨lx, x0, x1, x2, x3, x4, x5, x6⟩ := link_cells X1.out
  obtain ⟨ly, y0, y1, y2, y3, y4, y5, y6⟩ := link_cells Y1.out
  go_wp2_with fail
  go_ret
  exact ⟨rfl, B1.out⟩

theorem heap_alloc_new' (w : World) (x y : Obj) : ((w.alloc x).alloc y).heap[w.heap.size + 1]? = some y := by
  have := heap_alloc_new (w.alloc x) y
  rw [show (w.alloc x).heap.size = w.heap.size + 1 by simp] at this
  exact this
/-- where no word lies, none is read -/
def noWord : Value → Bool
  | .int .i32 _ => false
  | _ => true
theorem no_word {w w' : World} {b : Nat} {vs : Array Value} {t : TypeId} (h : w'.heap[b]? = w.heap[b]?) (hv : w.heap[b]? = some (.cells vs t)) (hn : vs.all noWord = true) {o : Nat} {x : Int} (hc : w'.cell? ⟨b, o, none⟩ = some (.int .i32 x)) : False := by
  rw [hv] at h
  unfold World.cell? at hc
  simp only [h] at hc
  rw [Array.all_eq_true] at hn
  have hc' : vs[o]? = some (.int .i32 x) := by simpa using hc
  obtain ⟨ho, e⟩ := Array.getElem?_eq_some_iff.1 hc'
  have := hn o ho
  rw [e] at this
  cases this

/-- a link's box, the box of an answer and a frame's box -/
structure Hb (w : World) (V U : List Value) (d : Nat) (W : World) : Prop where
  lb : Lb w V W
  fr : Cells W d U
  ge : w.heap.size + 2 ≤ d

set_option maxHeartbeats 4000000 in
set_option maxRecDepth 100000 in
theorem rhear_any (l : Lk) (a : Option Addr) (c : Nat) (s : ByteArray) (w : World) (hl : lkErr l = 0) (s0 : 0 ≤ l.F.S) (s1 : l.F.S < 256) (hr : Wds w a l.F.n l.F.l) (hs : s.size ≤ 140737488351232) :
    Calls Try.prog 14 #[.agg #[.int .i64 l.F.K, .int .i64 l.F.L, .int .u8 l.F.S, .slice a l.F.n c, .bool l.h, .int .i64 l.A, .int .i64 l.B], .string s] w fun e w' => ∃ a' c', e = .returned (.tuple #[.agg #[.int .i64 (hrL l s).F.K, .int .i64 (hrL l s).F.L, .int .u8 (hrL l s).F.S, .slice a' (hrL l s).F.n c', .bool (hrL l s).h, .int .i64 (hrL l s).A, .int .i64 (hrL l s).B], .int .i64 (hrE l s)]) ∧ Wds w' a' (hrL l s).F.n (hrL l s).F.l ∧ Below w.heap.size w w' := by
  have HQ : Hid (∀ W, Calls Try.prog 33 #[.string s] W fun e w' => ∃ a c, e = .returned (.tuple #[.agg #[.int .i64 (rdF s).K, .int .i64 (rdF s).L, .int .u8 (rdF s).S, .slice a (rdF s).n c], .int .i64 (rdE s)]) ∧ Wds w' a (rdF s).n (rdF s).l ∧ Below W.heap.size W w') := fun W => rread_any s W hs
  have HN : Hid (∀ W, Calls Try.prog 34 #[.int .u8 (rdF s).S, .int .u8 l.F.S] W fun e w' => e = .returned (.bool (newB (rdF s).S l.F.S)) ∧ w' = W) := fun W => rnewer_any _ _ W (rdF_S s).1 (rdF_S s).2.1 s0 s1
  have b0 := (lkE_zero hl).2.2.1
  have b1 := (lkE_zero hl).2.2.2.1
  have F1 : Hid (rdE s ≠ 0 → hrE l s = rdE s ∧ hrL l s = ⟨l.F, l.h, l.A, upB l.B⟩) := fun h2 => ⟨hrE_read hl h2, hrL_spoilt hl (by rw [hrE_read hl h2]; exact h2)⟩
  have F2 : Hid (rdE s = 0 → (l.h && decide (l.A < 100) && !newB (rdF s).S l.F.S) = true → hrE l s = 6 ∧ hrL l s = ⟨l.F, l.h, l.A, upB l.B⟩) := fun h2 h3 => ⟨hrE_stale hl h2 h3, hrL_spoilt hl (by rw [hrE_stale hl h2 h3]; decide)⟩
  have F3 : Hid (rdE s = 0 → (l.h && decide (l.A < 100) && !newB (rdF s).S l.F.S) = false → hrE l s = 0 ∧ hrL l s = ⟨rdF s, true, 0, l.B⟩) := fun h2 h3 => ⟨hrE_new hl h2 h3, hrL_new hl (hrE_new hl h2 h3)⟩
  have HR : Hid (Wds w a l.F.n l.F.l) := hr
  clear hr s0 s1 hl
  generalize hrE l s = G at *
  generalize hrL l s = z at *
  generalize newB (rdF s).S l.F.S = nb at *
  generalize rdF s = f at *
  generalize rdE s = E at *
  obtain ⟨⟨K, L, S, n, wl⟩, h, A, B⟩ := l
  obtain ⟨fK, fL, fS, fn, fl⟩ := f
  simp only at HQ HN F1 F2 F3 HR b0 b1 ⊢
  have X0 : Hid (Lb w [.int .i64 K, .int .i64 L, .int .u8 S, .slice a n c, .bool h, .int .i64 A, .int .i64 B] _) := lb_new w (.int .i64 K) (.int .i64 L) (.int .u8 S) (.slice a n c) (.bool h) (.int .i64 A) (.int .i64 B) 26
  have HB : Hid (0 ≤ B ∧ B ≤ 10000) := ⟨b0, b1⟩
  clear b0 b1
  go_enter Try.func14, Try.ntmps14
  go_wp2_with fail
  refine (HQ.out _).mono ?_
  rintro e w1 ⟨fa, fc, rfl, hf, hb⟩
  have X1 : Hid (Lb w [.int .i64 K, .int .i64 L, .int .u8 S, .slice a n c, .bool h, .int .i64 A, .int .i64 B] w1) := X0.out.step hb
  have bw := (Below.refl _ w1).alloc (Nat.le_refl _) (.cells #[.int .i64 fK, .int .i64 fL, .int .u8 fS, .slice fa fn fc] 24)
  have X2 : Hid (Hb w [.int .i64 K, .int .i64 L, .int .u8 S, .slice a n c, .bool h, .int .i64 A, .int .i64 B] [.int .i64 fK, .int .i64 fL, .int .u8 fS, .slice fa fn fc] w1.heap.size (w1.alloc (.cells #[.int .i64 fK, .int .i64 fL, .int .u8 fS, .slice fa fn fc] 24))) := ⟨X1.out.step bw, cells_new w1 _ _, X1.out.out.lt⟩
  have F4 : Hid (Wds (w1.alloc (.cells #[.int .i64 fK, .int .i64 fL, .int .u8 fS, .slice fa fn fc] 24)) fa fn fl) := hf.later bw
  have HO : Hid (∀ q o, fa = some ⟨q, o, none⟩ → 0 < fn → q ≠ w.heap.size + 1) := fun q o e h0 hq => by
    subst hq
    obtain ⟨q', o', e', _, hrow⟩ := hf h0
    rw [e] at e'
    cases e'
    exact no_word (hb.block _ (by simp)) (heap_alloc_new' w _ _) (by simp [noWord]) (hrow 0 h0)
  clear hf hb X0 X1 bw
  go_upto_region 2 with fail
  generalize w1.alloc (.cells #[.int .i64 fK, .int .i64 fL, .int .u8 fS, .slice fa fn fc] 24) = w2 at X2 F4 ⊢
  generalize w1.heap.size = d at X2 ⊢
  by_cases hE : E = 0
  · subst hE
    cases h with
    | false =>
      have GZ : Hid (G = 0 ∧ z = ⟨⟨fK, fL, fS, fn, fl⟩, true, 0, B⟩) := F3.out rfl rfl
      clear F1 F2 F3
      obtain ⟨lx, x0, x1, x2, x3, x4, x5, x6⟩ := link_cells X2.out.lb.box
      obtain ⟨ly, y0, y1, y2, y3, y4, y5, y6⟩ := link_cells X2.out.lb.out
      obtain ⟨k0, k1, k2, k3, k4, k5, k6⟩ := link_froz X2.out.lb.out
      have u0 := X2.out.fr.cell 0 _ rfl
      have u1 := X2.out.fr.cell 1 _ rfl
      have u2 := X2.out.fr.cell 2 _ rfl
      have u3 := X2.out.fr.cell 3 _ rfl
      go_wp2_with fail
      clear lx x0 x1 x2 x3 x4 x5 x6 ly y0 y1 y2 y3 y4 y5 y6 k0 k1 k2 k3 k4 k5 k6 u0 u1 u2 u3
      obtain ⟨w3, hw3, C3, b3, s3, o3⟩ := X2.out.lb.put (.int .i64 fK) (.int .i64 fL) (.int .u8 fS) (.slice fa fn fc) (.bool true) (.int .i64 0) (.int .i64 B)
      rw [hw3]
      obtain ⟨ly, y0, y1, y2, y3, y4, y5, y6⟩ := link_cells C3
      refine bodyPost_ret (by simp [results, Try.results14, go_sem, y0, y1, y2, y3, y4, y5, y6]; try rfl) rfl ?_
      rw [GZ.out.1, GZ.out.2]
      first | refine ⟨fa, fc, rfl, fun h0 => ?_, b3⟩ | refine ⟨fa, ⟨fc, rfl⟩, fun h0 => ?_, b3⟩
      obtain ⟨q, o, e, hlt, hrow⟩ := F4.out h0
      subst e
      exact Wds.block (fun _ => ⟨q, o, rfl, hlt, hrow⟩) (by rw [s3]; exact Nat.le_refl _) (o3 q (HO.out q o rfl h0)) h0
    | true =>
      by_cases hA : A < 100
      · obtain ⟨lx, x0, x1, x2, x3, x4, x5, x6⟩ := link_cells X2.out.lb.box
        have u2 := X2.out.fr.cell 2 _ rfl
        have GT : Hid (nb = true → G = 0 ∧ z = ⟨⟨fK, fL, fS, fn, fl⟩, true, 0, B⟩) := fun h => F3.out rfl (by rw [decide_eq_true hA, h]; rfl)
        have GF : Hid (nb = false → G = 6 ∧ z = ⟨⟨K, L, S, n, wl⟩, true, A, upB B⟩) := fun h => F2.out rfl (by rw [decide_eq_true hA, h]; rfl)
        clear F1 F2 F3
        go_wp2_with fail
        clear lx x0 x1 x2 x3 x4 x5 x6 u2
        refine (HN.out _).mono ?_
        rintro e w5 ⟨rfl, rfl⟩
        cases nb with
        | true =>
          have GZ : Hid (G = 0 ∧ z = ⟨⟨fK, fL, fS, fn, fl⟩, true, 0, B⟩) := GT.out rfl
          clear GT GF
          obtain ⟨lx, x0, x1, x2, x3, x4, x5, x6⟩ := link_cells X2.out.lb.box
          obtain ⟨ly, y0, y1, y2, y3, y4, y5, y6⟩ := link_cells X2.out.lb.out
          obtain ⟨k0, k1, k2, k3, k4, k5, k6⟩ := link_froz X2.out.lb.out
          have u0 := X2.out.fr.cell 0 _ rfl
          have u1 := X2.out.fr.cell 1 _ rfl
          have u2 := X2.out.fr.cell 2 _ rfl
          have u3 := X2.out.fr.cell 3 _ rfl
          go_wp2_with fail
          clear lx x0 x1 x2 x3 x4 x5 x6 ly y0 y1 y2 y3 y4 y5 y6 k0 k1 k2 k3 k4 k5 k6 u0 u1 u2 u3
          obtain ⟨w3, hw3, C3, b3, s3, o3⟩ := X2.out.lb.put (.int .i64 fK) (.int .i64 fL) (.int .u8 fS) (.slice fa fn fc) (.bool true) (.int .i64 0) (.int .i64 B)
          rw [hw3]
          obtain ⟨ly, y0, y1, y2, y3, y4, y5, y6⟩ := link_cells C3
          refine bodyPost_ret (by simp [results, Try.results14, go_sem, y0, y1, y2, y3, y4, y5, y6]; try rfl) rfl ?_
          rw [GZ.out.1, GZ.out.2]
          first | refine ⟨fa, fc, rfl, fun h0 => ?_, b3⟩ | refine ⟨fa, ⟨fc, rfl⟩, fun h0 => ?_, b3⟩
          obtain ⟨q, o, e, hlt, hrow⟩ := F4.out h0
          subst e
          exact Wds.block (fun _ => ⟨q, o, rfl, hlt, hrow⟩) (by rw [s3]; exact Nat.le_refl _) (o3 q (HO.out q o rfl h0)) h0
        | false =>
          have GZ : Hid (G = 6 ∧ z = ⟨⟨K, L, S, n, wl⟩, true, A, upB B⟩) := GF.out rfl
          clear GT GF
          obtain ⟨lx, x0, x1, x2, x3, x4, x5, x6⟩ := link_cells X2.out.lb.box
          obtain ⟨g0, g1, g2, g3, g4, g5, g6⟩ := link_froz X2.out.lb.box
          obtain ⟨ly, y0, y1, y2, y3, y4, y5, y6⟩ := link_cells X2.out.lb.out
          obtain ⟨k0, k1, k2, k3, k4, k5, k6⟩ := link_froz X2.out.lb.out
          by_cases hB : B < 10000
          · have HU : Hid (upB B = B + 1) := upB_lt hB
            have hB1 : -1 < B := by have := HB.out; omega
            go_wp2_with fail
            clear lx x0 x1 x2 x3 x4 x5 x6 g0 g1 g2 g3 g4 g5 g6 ly y0 y1 y2 y3 y4 y5 y6 k0 k1 k2 k3 k4 k5 k6
            obtain ⟨w3, hw3, C3, b3, s3, o3⟩ := (X2.out.lb.set (j := 6) (by simp) (.int .i64 (B + 1))).put (.int .i64 K) (.int .i64 L) (.int .u8 S) (.slice a n c) (.bool true) (.int .i64 A) (.int .i64 (B + 1))
            rw [hw3]
            obtain ⟨ly, y0, y1, y2, y3, y4, y5, y6⟩ := link_cells C3
            refine bodyPost_ret (by simp [results, Try.results14, go_sem, y0, y1, y2, y3, y4, y5, y6]; try rfl) rfl ?_
            rw [GZ.out.1, GZ.out.2, HU.out]
            first | exact ⟨a, c, rfl, HR.out.later b3, b3⟩ | exact ⟨a, ⟨c, rfl⟩, HR.out.later b3, b3⟩
          · have HU : Hid (upB B = B) := by show upB B = B; unfold upB; rw [if_neg hB]; have := HB.out; omega
            go_wp2_with fail
            clear lx x0 x1 x2 x3 x4 x5 x6 g0 g1 g2 g3 g4 g5 g6 ly y0 y1 y2 y3 y4 y5 y6 k0 k1 k2 k3 k4 k5 k6
            obtain ⟨w3, hw3, C3, b3, s3, o3⟩ := X2.out.lb.put (.int .i64 K) (.int .i64 L) (.int .u8 S) (.slice a n c) (.bool true) (.int .i64 A) (.int .i64 B)
            rw [hw3]
            obtain ⟨ly, y0, y1, y2, y3, y4, y5, y6⟩ := link_cells C3
            refine bodyPost_ret (by simp [results, Try.results14, go_sem, y0, y1, y2, y3, y4, y5, y6]; try rfl) rfl ?_
            rw [GZ.out.1, GZ.out.2, HU.out]
            first | exact ⟨a, c, rfl, HR.out.later b3, b3⟩ | exact ⟨a, ⟨c, rfl⟩, HR.out.later b3, b3⟩
      · have GZ : Hid (G = 0 ∧ z = ⟨⟨fK, fL, fS, fn, fl⟩, true, 0, B⟩) := F3.out rfl (by rw [decide_eq_false hA]; rfl)
        clear F1 F2 F3
        obtain ⟨lx, x0, x1, x2, x3, x4, x5, x6⟩ := link_cells X2.out.lb.box
        obtain ⟨ly, y0, y1, y2, y3, y4, y5, y6⟩ := link_cells X2.out.lb.out
        obtain ⟨k0, k1, k2, k3, k4, k5, k6⟩ := link_froz X2.out.lb.out
        have u0 := X2.out.fr.cell 0 _ rfl
        have u1 := X2.out.fr.cell 1 _ rfl
        have u2 := X2.out.fr.cell 2 _ rfl
        have u3 := X2.out.fr.cell 3 _ rfl
        go_wp2_with fail
        clear lx x0 x1 x2 x3 x4 x5 x6 ly y0 y1 y2 y3 y4 y5 y6 k0 k1 k2 k3 k4 k5 k6 u0 u1 u2 u3
        obtain ⟨w3, hw3, C3, b3, s3, o3⟩ := X2.out.lb.put (.int .i64 fK) (.int .i64 fL) (.int .u8 fS) (.slice fa fn fc) (.bool true) (.int .i64 0) (.int .i64 B)
        rw [hw3]
        obtain ⟨ly, y0, y1, y2, y3, y4, y5, y6⟩ := link_cells C3
        refine bodyPost_ret (by simp [results, Try.results14, go_sem, y0, y1, y2, y3, y4, y5, y6]; try rfl) rfl ?_
        rw [GZ.out.1, GZ.out.2]
        first | refine ⟨fa, fc, rfl, fun h0 => ?_, b3⟩ | refine ⟨fa, ⟨fc, rfl⟩, fun h0 => ?_, b3⟩
        obtain ⟨q, o, e, hlt, hrow⟩ := F4.out h0
        subst e
        exact Wds.block (fun _ => ⟨q, o, rfl, hlt, hrow⟩) (by rw [s3]; exact Nat.le_refl _) (o3 q (HO.out q o rfl h0)) h0
  · have GZ : Hid (G = E ∧ z = ⟨⟨K, L, S, n, wl⟩, h, A, upB B⟩) := F1.out hE
    clear F1 F2 F3
    have q1 : (E == 0) = false := by simpa using hE
    have q2 : (E != 0) = true := by simpa using hE
    obtain ⟨lx, x0, x1, x2, x3, x4, x5, x6⟩ := link_cells X2.out.lb.box
    obtain ⟨g0, g1, g2, g3, g4, g5, g6⟩ := link_froz X2.out.lb.box
    obtain ⟨ly, y0, y1, y2, y3, y4, y5, y6⟩ := link_cells X2.out.lb.out
    obtain ⟨k0, k1, k2, k3, k4, k5, k6⟩ := link_froz X2.out.lb.out
    by_cases hB : B < 10000
    · have HU : Hid (upB B = B + 1) := upB_lt hB
      have hB1 : -1 < B := by have := HB.out; omega
      go_wp2_with fail
      clear lx x0 x1 x2 x3 x4 x5 x6 g0 g1 g2 g3 g4 g5 g6 ly y0 y1 y2 y3 y4 y5 y6 k0 k1 k2 k3 k4 k5 k6
      obtain ⟨w3, hw3, C3, b3, s3, o3⟩ := (X2.out.lb.set (j := 6) (by simp) (.int .i64 (B + 1))).put (.int .i64 K) (.int .i64 L) (.int .u8 S) (.slice a n c) (.bool h) (.int .i64 A) (.int .i64 (B + 1))
      rw [hw3]
      obtain ⟨ly, y0, y1, y2, y3, y4, y5, y6⟩ := link_cells C3
      refine bodyPost_ret (by simp [results, Try.results14, go_sem, y0, y1, y2, y3, y4, y5, y6]; try rfl) rfl ?_
      rw [GZ.out.1, GZ.out.2, HU.out]
      first | exact ⟨a, c, rfl, HR.out.later b3, b3⟩ | exact ⟨a, ⟨c, rfl⟩, HR.out.later b3, b3⟩
    · have HU : Hid (upB B = B) := by show upB B = B; unfold upB; rw [if_neg hB]; have := HB.out; omega
      go_wp2_with fail
      clear lx x0 x1 x2 x3 x4 x5 x6 g0 g1 g2 g3 g4 g5 g6 ly y0 y1 y2 y3 y4 y5 y6 k0 k1 k2 k3 k4 k5 k6
      obtain ⟨w3, hw3, C3, b3, s3, o3⟩ := X2.out.lb.put (.int .i64 K) (.int .i64 L) (.int .u8 S) (.slice a n c) (.bool h) (.int .i64 A) (.int .i64 B)
      rw [hw3]
      obtain ⟨ly, y0, y1, y2, y3, y4, y5, y6⟩ := link_cells C3
      refine bodyPost_ret (by simp [results, Try.results14, go_sem, y0, y1, y2, y3, y4, y5, y6]; try rfl) rfl ?_
      rw [GZ.out.1, GZ.out.2, HU.out]
      first | exact ⟨a, c, rfl, HR.out.later b3, b3⟩ | exact ⟨a, ⟨c, rfl⟩, HR.out.later b3, b3⟩

end Go.Proofs.Ytiaolelkabbnmaa
