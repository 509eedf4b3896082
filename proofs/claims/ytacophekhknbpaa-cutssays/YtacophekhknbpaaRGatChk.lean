/-
  Contracts of the document's TreeErr: it tells what is wrong with a tree, and leaves what was there.
-/
import Derived.Test.YtacophekhknbpaaGat
namespace Go.Proofs.Ytacophekhknbpaa
open Go.RowKit
set_option linter.unusedVariables false

set_option maxHeartbeats 4000000 in
theorem gateErr_bad (k v : Int) (a : Option Addr) (n c : Nat) (m : Nat) (w : World) (hs : n * 8 ≤ 140737488351232) (lo : -9223372036854775808 ≤ v) (hi : v ≤ 9223372036854775807) (hF : formV k v n = false) :
    Calls Try.prog 36 #[.agg #[.int .i64 k, .int .i64 v, .slice a n c], .int .i64 m] w fun e w' => e = .returned (.int .i64 4) ∧ Below w.heap.size w w' := by
  rcases form_cases k v n with ⟨rfl, z1, zE⟩ | ⟨rfl, z1, z2, zE⟩ | ⟨rfl, z1, z2, z3, zE⟩ | ⟨rfl, z1, z2, rfl, zE⟩ | ⟨rfl, rfl, zE⟩ | ⟨rfl, z1, zE⟩ | ⟨rfl, rfl, zE⟩ | ⟨rfl, z1, zE⟩ | ⟨rfl, z1, zE⟩ | ⟨rfl, z1, z2, zE⟩ | ⟨rfl, z1, z2, zE⟩ | ⟨z1, z2, z3, z4, zE⟩
  all_goals first
    | exact absurd (zE.symm.trans hF) (by decide)
    | skip
  all_goals
    clear zE hF
    first
      | have y1 : ¬ v ≤ 7 := by omega
      | have y1 : ¬ v - 1 ≤ (n : Int) := by omega
      | skip
    go_enter Try.func36, Try.ntmps36
    go_wp2_with fail
    go_ret
    exact ⟨rfl, gbox _ _⟩

set_option maxHeartbeats 4000000 in
theorem gateErr_part (v : Int) (a : Option Addr) (c : Nat) (m : Nat) (w : World) (z1 : ¬ v < 0) (z2 : v ≤ 7) :
    Calls Try.prog 36 #[.agg #[.int .i64 1, .int .i64 v, .slice a 0 c], .int .i64 m] w fun e w' => e = .returned (.int .i64 0) ∧ Below w.heap.size w w' := by
  go_enter Try.func36, Try.ntmps36
  go_wp2_with fail
  go_rounds 1
  go_wp2_with fail
  go_ret
  exact ⟨rfl, gbox _ _⟩

set_option maxHeartbeats 8000000 in
set_option maxRecDepth 100000 in
theorem gateErr_good (k v : Int) (a : Option Addr) (n c : Nat) (f : Nat → Int) (m : Nat) (w : World) (hs : n * 8 ≤ 140737488351232) (lo : -9223372036854775808 ≤ v) (hi : v ≤ 9223372036854775807) (hm : m ≤ 30) (h : RI w a n f) (hF : formV k v n = true) (E : Int) (hE : (if 6 < n then (2 : Int) else if okB f m n then 0 else 4) = E) :
    Calls Try.prog 36 #[.agg #[.int .i64 k, .int .i64 v, .slice a n c], .int .i64 m] w fun e w' => e = .returned (.int .i64 E) ∧ Below w.heap.size w w' := by
  have HR : Hid (RI w a n f) := h
  have HB0 : Hid (∀ o : Obj, Below w.heap.size w (w.alloc o)) := fun o => gbox _ _
  clear h
  rcases form_cases k v n with ⟨rfl, z1, zE⟩ | ⟨rfl, z1, z2, zE⟩ | ⟨rfl, z1, z2, z3, zE⟩ | ⟨rfl, z1, z2, z3, zE⟩ | ⟨rfl, rfl, zE⟩ | ⟨rfl, z1, zE⟩ | ⟨rfl, rfl, zE⟩ | ⟨rfl, z1, zE⟩ | ⟨rfl, z1, zE⟩ | ⟨rfl, z1, z2, zE⟩ | ⟨rfl, z1, z2, zE⟩ | ⟨z1, z2, z3, z4, zE⟩
  all_goals first
    | exact absurd (zE.symm.trans hF) (by decide)
    | skip
  all_goals
    clear zE hF
    try have y1 : v ≤ 7 := by omega
    try have y1 : v - 1 ≤ (n : Int) := by omega
    first
      | (subst z3
         rw [if_neg (by decide)] at hE
         have q : okB f m 0 = true := rfl
         rw [if_pos q] at hE
         subst hE
         exact gateErr_part v a c m w z1 y1)
      | skip
  all_goals
    clear lo hi
    by_cases q : 6 < n
    · first
        | fail
        | (rw [if_pos q] at hE
           subst hE
           have z : (6 : Int) < (n : Int) := by omega
           go_enter Try.func36, Try.ntmps36
           go_wp2_with fail
           go_ret
           exact ⟨rfl, HB0.out _⟩)
    · rw [if_neg q] at hE
      have z : ¬ (6 : Int) < (n : Int) := by omega
      have HE : Hid ((if okB f m n = true then (0 : Int) else 4) = E) := hE
      have HN : Hid (¬ 6 < n) := q
      clear hE q
      go_enter Try.func36, Try.ntmps36
      go_wp2_with fail
      go_loopg [55] (n + 1) (fun g s wr => ∃ q : Nat, s = .int .i64 q ∧ n - q < g ∧ q ≤ n ∧ Hid (okB f m q = true) ∧ Hid (Below w.heap.size w wr))
      case atStart => exact ⟨0, rfl, by omega, by omega, rfl, HB0.out _⟩
      case round =>
        obtain ⟨q, rfl, hg, hq, HO, HB⟩ := hrel
        clear z
        by_cases hlt : q < n
        · have y1 : (q : Int) < (n : Int) := by omega
          have HQ : Hid (RI wr a n f) := HR.out.step HB.out
          obtain ⟨b, o, rfl, hb, hc⟩ := HQ.out (by omega)
          have x0 := hc q hlt
          have HF : Hid (∀ x, f q = x → ¬ (0 ≤ x ∧ x < (m : Int)) → E = 4) := fun x hx hn => by
            have := HE.out
            rw [okB_bad hlt (by rw [hx]; exact hn), if_neg (by decide)] at this
            exact this.symm
          have HT : Hid (∀ x, f q = x → 0 ≤ x → x < (m : Int) → okB f m (q + 1) = true) := fun x hx h1 h2 => by
            simp only [okB, HO.out, hx, h1, h2, decide_true, Bool.and_self]
          clear hc
          obtain ⟨x, hx⟩ : ∃ x, f q = x := ⟨_, rfl⟩
          rw [hx] at x0
          by_cases h1 : x < 0
          · have Q : Hid (E = 4) := HF.out x hx (by omega)
            go_wp2_with fail
            go_ret
            exact ⟨by first | (rw [Q.out]; done) | (rw [Q.out]; rfl), HB.out⟩
          · by_cases h2 : (m : Int) ≤ x
            · have Q : Hid (E = 4) := HF.out x hx (by omega)
              go_wp2_with fail
              go_ret
              exact ⟨by first | (rw [Q.out]; done) | (rw [Q.out]; rfl), HB.out⟩
            · have HT2 : Hid (_) := HT.out x hx (by omega) (by omega)
              clear HF HT hx
              go_wp2_with fail
              go_roundg (n - (q + 1) + 1)
              case measure => omega
              case rel => exact ⟨q + 1, by go_num, by omega, by omega, HT2.out, HB.out⟩
        · have y1 : ¬ (q : Int) < (n : Int) := by omega
          obtain rfl : q = n := by omega
          have Q : Hid (E = 0) := by
            have := HE.out
            rw [if_pos HO.out] at this
            exact this.symm
          go_wp2_with fail
          go_ret
          exact ⟨by first | (rw [Q.out]; done) | (rw [Q.out]; rfl), HB.out⟩

theorem gateErr_any (g : Gt) (m : Nat) (w : World) (hg : GW g) (hm : m ≤ 30) (h : RI w g.a g.n g.of) :
    Calls Try.prog 36 #[.agg #[.int .i64 g.k, .int .i64 g.v, .slice g.a g.n g.c], .int .i64 m] w fun e w' => e = .returned (.int .i64 (geE g m)) ∧ Below w.heap.size w w' := by
  unfold geE
  cases q : formV g.k g.v g.n
  · rw [if_pos rfl]
    exact gateErr_bad g.k g.v g.a g.n g.c m w hg.small hg.lo hg.hi q
  · rw [if_neg (by decide)]
    exact gateErr_good g.k g.v g.a g.n g.c g.of m w hg.small hg.lo hg.hi hm h q _ rfl

set_option maxHeartbeats 1000000 in
theorem treeErr_large (a : Option Addr) (n c : Nat) (h : n < 1 ∨ 30 < n) (w : World) : Calls Try.prog 8 #[.slice a n c] w fun e w' => e = .returned (.int .i64 2) ∧ Below w.heap.size w w' := by
  rcases h with h | h
  · obtain rfl : n = 0 := by omega
    go_enter Try.func8, Try.ntmps8
    go_wp2_with fail
    go_ret
    exact ⟨rfl, Below.refl _ _⟩
  · have z1 : ((n : Int) == 0) = false := by simp; omega
    have z2 : (30 : Int) < (n : Int) := by omega
    go_enter Try.func8, Try.ntmps8
    go_wp2_with fail
    go_ret
    exact ⟨rfl, Below.refl _ _⟩

set_option maxHeartbeats 4000000 in
set_option maxRecDepth 100000 in
theorem treeErr_small (a : Option Addr) (n c : Nat) (t : Nat → Gt) (w : World) (hn : ¬ (n < 1 ∨ 30 < n)) (h : RowG w a n t) (E : Int) (hE : chR t n = E) :
    Calls Try.prog 8 #[.slice a n c] w fun e w' => e = .returned (.int .i64 E) ∧ Below w.heap.size w w' := by
  have HR : Hid (RowG w a n t) := h
  have HE : Hid (chR t n = E) := hE
  have HN : Hid (¬ (n < 1 ∨ 30 < n)) := hn
  have z1 : ((n : Int) == 0) = false := by simp; omega
  have z2 : ¬ (30 : Int) < (n : Int) := by omega
  clear h hE hn
  go_enter Try.func8, Try.ntmps8
  go_wp2_with fail
  go_loopg [16] (n + 1) (fun g s wr => ∃ q : Nat, s = .int .i64 q ∧ n - q < g ∧ q ≤ n ∧ Hid (chR t q = 0) ∧ Hid (Below w.heap.size w wr))
  case atStart => exact ⟨0, rfl, by omega, by omega, rfl, Below.refl _ _⟩
  case round =>
    obtain ⟨q, rfl, hg, hq, HO, HB⟩ := hrel
    clear z1 z2
    by_cases hlt : q < n
    · have y1 : (q : Int) < (n : Int) := by omega
      have HQ : Hid (RowG wr a n t) := HR.out.step HB.out
      obtain ⟨b, o, rfl, hb, hc⟩ := HQ.out.row (by omega)
      obtain ⟨x0, x1, x2⟩ := hc q hlt
      have y3 : (q : Int) < 30 := by have := HN.out; omega
      have B1 : Hid (Below w.heap.size w (wr.alloc (.cells #[.int .i64 (t q).k, .int .i64 (t q).v, .slice (t q).a (t q).n (t q).c] 41))) := HB.out.alloc HB.out.size _
      have C : Hid (Calls Try.prog 36 #[.agg #[.int .i64 (t q).k, .int .i64 (t q).v, .slice (t q).a (t q).n (t q).c], .int .i64 q] (wr.alloc (.cells #[.int .i64 (t q).k, .int .i64 (t q).v, .slice (t q).a (t q).n (t q).c] 41)) fun e w' => e = .returned (.int .i64 (geE (t q) q)) ∧ Below (wr.alloc (.cells #[.int .i64 (t q).k, .int .i64 (t q).v, .slice (t q).a (t q).n (t q).c] 41)).heap.size (wr.alloc (.cells #[.int .i64 (t q).k, .int .i64 (t q).v, .slice (t q).a (t q).n (t q).c] 41)) w') :=
        gateErr_any (t q) q _ (HR.out.ok q hlt) (by have := HN.out; omega) ((HQ.out.of q hlt).step (gbox _ _))
      have K1 : Hid (geE (t q) q ≠ 0 → E = geE (t q) q) := fun h => HE.out.symm.trans (chR_bad HO.out hlt h)
      have K2 : Hid (geE (t q) q = 0 → chR t (q + 1) = 0) := fun h => by
        show (if chR t q = 0 then geE (t q) q else chR t q) = 0
        rw [if_pos HO.out, h]
      clear hc
      generalize geE (t q) q = G at C K1 K2
      go_wp2_with fail
      refine C.out.mono ?_
      rintro e w1 ⟨rfl, hb2⟩
      have B2 : Hid (Below w.heap.size w w1) := B1.out.trans (hb2.mono B1.out.size)
      clear hb2 B1 C x0 x1 x2
      by_cases hG : G = 0
      · subst hG
        go_wp2_with fail
        go_roundg (n - (q + 1) + 1)
        case measure => omega
        case rel => exact ⟨q + 1, by go_num, by omega, by omega, K2.out (by trivial), B2.out⟩
      · have Q : Hid (E = G) := K1.out hG
        have y2 : (G != 0) = true := by simpa using hG
        clear hG
        go_wp2_with fail
        go_ret
        exact ⟨by rw [Q.out]; rfl, B2.out⟩
    · have y1 : ¬ (q : Int) < (n : Int) := by omega
      obtain rfl : q = n := by omega
      have Q : Hid (E = 0) := HE.out.symm.trans HO.out
      go_wp2_with fail
      go_ret
      exact ⟨by rw [Q.out]; rfl, HB.out⟩

theorem treeErr_any (a : Option Addr) (n c : Nat) (t : Nat → Gt) (w : World) (h : RowG w a n t) :
    Calls Try.prog 8 #[.slice a n c] w fun e w' => e = .returned (.int .i64 (chG t n)) ∧ Below w.heap.size w w' := by
  unfold chG
  by_cases q : n < 1 ∨ 30 < n
  · rw [if_pos q]
    exact treeErr_large a n c q w
  · rw [if_neg q]
    exact treeErr_small a n c t w q h _ rfl

end Go.Proofs.Ytacophekhknbpaa
