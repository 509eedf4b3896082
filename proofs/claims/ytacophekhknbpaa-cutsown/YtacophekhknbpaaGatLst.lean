/-
  Contracts of cuts.lastFails and cuts.Fails.
-/
import Derived.Test.YtacophekhknbpaaGatFls
import Derived.Deep.RegionHeld3
namespace Go.Proofs.Ytacophekhknbpaa
open Go.RowKit
set_option linter.unusedVariables false

theorem gateFails_any (g : Gt) (p m B : Nat) (A : Nat → Bool) (w : World) (hg : geE g m = 0) (hp : p < 65536) (hm : m ≤ 30) (hB : B < w.heap.size) (hA : ∀ j, j < m → w.cell? ⟨B, j, none⟩ = some (.bool (A j))) (h : RI w g.a g.n g.of) :
    Calls Try.prog 48 #[.agg #[.int .i64 g.k, .int .i64 g.v, .slice g.a g.n g.c], .int .u16 p, .slice (some ⟨B, 0, none⟩) m 30] w fun e w' => e = .returned (.bool (gateF g p A)) ∧ Below w.heap.size w w' := by
  obtain ⟨h1, h2, h3⟩ := geE_zero hg
  unfold gateF
  by_cases q : g.k = 1
  · rw [if_pos q]
    rcases formV_kinds h1 with ⟨_, a, b, _⟩ | ⟨c, _⟩ | ⟨c, _⟩ | ⟨c, _⟩
    · obtain ⟨j, hj⟩ : ∃ j : Nat, g.v = (j : Int) := ⟨g.v.toNat, by omega⟩
      rw [q, hj, Int.toNat_natCast]
      exact gateFails_part j g.a g.n g.c p _ w (by omega) hp
    · omega
    · omega
    · omega
  · rw [if_neg q]
    exact gateFails_core g.k g.v g.a g.n g.c g.of p m B A w q h2 hm hB hA h3 h _ rfl

set_option maxHeartbeats 4000000 in
set_option maxRecDepth 100000 in
theorem lastFails_any (a : Option Addr) (n c p : Nat) (t : Nat → Gt) (w : World) (h : RowG w a n t) (hc : chG t n = 0) (hp : p < 65536) :
    Calls Try.prog 37 #[.slice a n c, .int .u16 p] w fun e w' => e = .returned (.bool (faT t n p)) ∧ Below w.heap.size w w' := by
  have HR : Hid (RowG w a n t) := h
  obtain ⟨n1, n2, h3⟩ := chG_zero hc
  have HG : Hid (∀ k, k < n → geE (t k) k = 0) := h3
  have HN : Hid (1 ≤ n ∧ n ≤ 30 ∧ p < 65536) := ⟨n1, n2, hp⟩
  clear h hc h3 hp n1 n2
  go_enter Try.func37, Try.ntmps37
  go_wp2_with fail
  go_loopg [10] (n + 1) (fun g s wr => ∃ q : Nat, s = .int .i64 q ∧ n - q < g ∧ q ≤ n ∧ Hid (BlB wr w.heap.size 30 (FT t p q)) ∧ Hid (Below w.heap.size w wr))
  case atStart =>
    refine ⟨0, rfl, by omega, by omega, ⟨by simp, fun j hj => ?_, fun j hj => by go_simp⟩, gbox _ _⟩
    show _ = some (Value.bool false)
    rcases (show j = 0 ∨ j = 1 ∨ j = 2 ∨ j = 3 ∨ j = 4 ∨ j = 5 ∨ j = 6 ∨ j = 7 ∨ j = 8 ∨ j = 9 ∨ j = 10 ∨ j = 11 ∨ j = 12 ∨ j = 13 ∨ j = 14 ∨ j = 15 ∨ j = 16 ∨ j = 17 ∨ j = 18 ∨ j = 19 ∨ j = 20 ∨ j = 21 ∨ j = 22 ∨ j = 23 ∨ j = 24 ∨ j = 25 ∨ j = 26 ∨ j = 27 ∨ j = 28 ∨ j = 29 by omega) with rfl | rfl | rfl | rfl | rfl | rfl | rfl | rfl | rfl | rfl | rfl | rfl | rfl | rfl | rfl | rfl | rfl | rfl | rfl | rfl | rfl | rfl | rfl | rfl | rfl | rfl | rfl | rfl | rfl | rfl <;> go_simp
  case round =>
    obtain ⟨q, rfl, hg, hq, HT, HB⟩ := hrel
    by_cases hlt : q < n
    · have y1 : (q : Int) < (n : Int) := by omega
      have HQ : Hid (RowG wr a n t) := HR.out.step HB.out
      obtain ⟨b, o, rfl, hb, hc⟩ := HQ.out.row (by omega)
      obtain ⟨x0, x1, x2⟩ := hc q hlt
      have y3 : (q : Int) < 30 := by have := HN.out.2.1; omega
      have y4 : q < 30 := by omega
      have y5 : w.heap.size < wr.heap.size := HT.out.lt
      have y6 : w.heap.size ≠ wr.heap.size := by omega
      have PG : Hid (GAt (wr.alloc (.cells #[.int .i64 (t q).k, .int .i64 (t q).v, .slice (t q).a (t q).n (t q).c] 41)) wr.heap.size 0 (t q)) := ⟨by go_simp, by go_simp, by go_simp⟩
      have B1 : Hid (Below w.heap.size w (wr.alloc (.cells #[.int .i64 (t q).k, .int .i64 (t q).v, .slice (t q).a (t q).n (t q).c] 41))) := HB.out.alloc HB.out.size _
      have T1 : Hid (BlB (wr.alloc (.cells #[.int .i64 (t q).k, .int .i64 (t q).v, .slice (t q).a (t q).n (t q).c] 41)) w.heap.size 30 (FT t p q)) := HT.out.step (gbox _ _)
      have C : Hid (∀ W, Below (wr.alloc (.cells #[.int .i64 (t q).k, .int .i64 (t q).v, .slice (t q).a (t q).n (t q).c] 41)).heap.size (wr.alloc (.cells #[.int .i64 (t q).k, .int .i64 (t q).v, .slice (t q).a (t q).n (t q).c] 41)) W → Calls Try.prog 48 #[.agg #[.int .i64 (t q).k, .int .i64 (t q).v, .slice (t q).a (t q).n (t q).c], .int .u16 p, .slice (some ⟨w.heap.size, 0, none⟩) q 30] W fun e w' => e = .returned (.bool (gateF (t q) p (FT t p q))) ∧ Below W.heap.size W w') := fun W hW =>
        gateFails_any (t q) p q w.heap.size (FT t p q) W (HG.out q hlt) HN.out.2.2 (by have := HN.out; omega) (T1.out.step hW).lt (fun j hj => (T1.out.step hW).cell j (by omega)) (((HQ.out.of q hlt).step (gbox _ _)).step hW)
      have K : Hid (∀ x, gateF (t q) p (FT t p q) = x → FT t p (q + 1) = fun j => if j = q then x else FT t p q j) := fun x hx => by
        subst hx
        rfl
      clear hc
      obtain ⟨F, hF⟩ : ∃ F, gateF (t q) p (FT t p q) = F := ⟨_, rfl⟩
      have K2 : Hid (FT t p (q + 1) = fun j => if j = q then F else FT t p q j) := K.out F hF
      rw [hF] at C
      clear K hF
      have qs : ∀ W : World, (Instr.sliceAt 65 (.pointer (some ⟨w.heap.size, 0, none⟩)) none (some (.int .i64 (q : Int))) none).run Try.prog W = .ok (.slice (some ⟨w.heap.size, 0, none⟩) q 30) W := fun W => by
        rw [run_sliceAt_array_h W 65 ⟨w.heap.size, 0, none⟩ Try.underlying65 .i64 (q : Int) (by omega) (show (q : Int) ≤ ((30 : Nat) : Int) by omega)]
        go_simp
      go_wp2_with fail
      go_region_held3 (fun w' => w'.cell? ⟨wr.heap.size, 0, none⟩ = some (.int .i64 (t q).k) ∧ w'.cell? ⟨wr.heap.size, 1, none⟩ = some (.int .i64 (t q).v) ∧ w'.cell? ⟨wr.heap.size, 2, none⟩ = some (.slice (t q).a (t q).n (t q).c)) (go_keep) (first | (go_at_call 48; refine (C.out _ (Below.refl _ _).drew).mono ?_; rintro e w2 ⟨rfl, hb2⟩; have D2 : Hid (Below (wr.alloc (.cells #[.int .i64 (t q).k, .int .i64 (t q).v, .slice (t q).a (t q).n (t q).c] 41)).heap.size (wr.alloc (.cells #[.int .i64 (t q).k, .int .i64 (t q).v, .slice (t q).a (t q).n (t q).c] 41)) w2) := (Below.refl _ _).drew.trans hb2; have G2 := PG.out.step D2.out (by simp); have g0 : w2.cell? ⟨wr.heap.size, 0, none⟩ = some (.int .i64 (t q).k) := G2.hk; have g1 : w2.cell? ⟨wr.heap.size, 1, none⟩ = some (.int .i64 (t q).v) := G2.hv; have g2 : w2.cell? ⟨wr.heap.size, 2, none⟩ = some (.slice (t q).a (t q).n (t q).c) := G2.hs; clear G2; have T2 : Hid (BlB w2 w.heap.size 30 (FT t p q)) := T1.out.step D2.out; have k1 := T2.out.cell q y4; have k2 := T2.out.froz q y4; have k3 := T2.out.lt; clear hb2))
      have B3 : Hid (Below w.heap.size w (w2.setCell ⟨w.heap.size, q, none⟩ (.bool F))) := (B1.out.trans (D2.out.mono B1.out.size)).setCell (Nat.le_refl _) _
      have T3 : Hid (BlB (w2.setCell ⟨w.heap.size, q, none⟩ (.bool F)) w.heap.size 30 (FT t p (q + 1))) := by
        rw [K2.out]
        exact T2.out.set y4 F
      clear T2 D2 C PG T1 qs k1 k2 k3 g0 g1 g2 x0 x1 x2
      go_wp2_with fail
      go_roundg (n - (q + 1) + 1)
      case measure => omega
      case rel => exact ⟨q + 1, by go_num, by omega, by omega, T3.out, B3.out⟩
    · have y1 : ¬ (q : Int) < (n : Int) := by omega
      obtain rfl : q = n := by omega
      obtain ⟨m, rfl⟩ : ∃ m, q = m + 1 := ⟨q - 1, by have := HN.out.1; omega⟩
      have k1 := HT.out.cell m (by have := HN.out.2.1; omega)
      rw [FT_at (Nat.lt_succ_self m)] at k1
      have y2 : ((m + 1 : Nat) : Int) - 1 = (m : Int) := by omega
      have y3 : (m : Int) < 30 := by have := HN.out.2.1; omega
      have y4 : faT t (m + 1) p = faG t p m := rfl
      have k3 := HT.out.lt
      go_wp2_with fail
      go_ret
      exact ⟨rfl, HB.out⟩

theorem fails_bad (a : Option Addr) (n c p : Nat) (t : Nat → Gt) (w : World) (h : RowG w a n t) (E : Int) (hE : chG t n = E) (h0 : ¬ E = 0) :
    Calls Try.prog 9 #[.slice a n c, .int .u16 p] w fun e w' => e = .returned (.tuple #[.bool false, .int .i64 E]) ∧ Below w.heap.size w w' := by
  have C : Hid (∀ W, Below w.heap.size w W → Calls Try.prog 19 #[.slice a n c] W fun e w' => e = .returned (.int .i64 E) ∧ Below W.heap.size W w') := fun W hW => hE ▸ checkT_any a n c t W (h.step hW)
  have z : (E != 0) = true := by simpa using h0
  clear h hE
  go_enter Try.func9, Try.ntmps9
  go_wp2_with fail
  refine (C.out _ (Below.refl _ _)).mono ?_
  rintro e w1 ⟨rfl, hb⟩
  go_wp2_with fail
  go_returns
  exact ⟨rfl, hb⟩

theorem fails_ok (a : Option Addr) (n c p : Nat) (t : Nat → Gt) (w : World) (h : RowG w a n t) (hE : chG t n = 0) (hp : p < 65536) :
    Calls Try.prog 9 #[.slice a n c, .int .u16 p] w fun e w' => e = .returned (.tuple #[.bool (faT t n p), .int .i64 0]) ∧ Below w.heap.size w w' := by
  have C : Hid (∀ W, Below w.heap.size w W → Calls Try.prog 19 #[.slice a n c] W fun e w' => e = .returned (.int .i64 0) ∧ Below W.heap.size W w') := fun W hW => hE ▸ checkT_any a n c t W (h.step hW)
  have D : Hid (∀ W, Below w.heap.size w W → Calls Try.prog 37 #[.slice a n c, .int .u16 p] W fun e w' => e = .returned (.bool (faT t n p)) ∧ Below W.heap.size W w') := fun W hW => lastFails_any a n c p t W (h.step hW) hE hp
  clear h hE hp
  go_enter Try.func9, Try.ntmps9
  go_wp2_with fail
  refine (C.out _ (Below.refl _ _)).mono ?_
  rintro e w1 ⟨rfl, hb⟩
  have B1 : Hid (Below w.heap.size w w1) := hb
  clear hb C
  go_wp2_with fail
  refine (D.out _ B1.out).mono ?_
  rintro e w2 ⟨rfl, hb⟩
  have B2 : Hid (Below w.heap.size w w2) := B1.out.trans (hb.mono B1.out.size)
  clear hb B1 D
  go_wp2_with fail
  go_returns
  exact ⟨rfl, B2.out⟩

end Go.Proofs.Ytacophekhknbpaa
