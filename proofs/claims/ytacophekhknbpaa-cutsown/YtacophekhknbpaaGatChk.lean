/-
  Contracts of cuts.Check and of the document's TreeErr: both tell what is wrong with a tree, and leave what was there.
-/
import Derived.Test.YtacophekhknbpaaGat
namespace Go.Proofs.Ytacophekhknbpaa
open Go.RowKit
set_option linter.unusedVariables false

set_option maxHeartbeats 4000000 in
theorem hasForm_core (k v : Int) (a : Option Addr) (n c : Nat) (w : World) (hs : n * 8 ≤ 140737488351232) (E : Bool) (hE : formV k v n = E) :
    Calls Try.prog 50 #[.agg #[.int .i64 k, .int .i64 v, .slice a n c]] w fun e w' => e = .returned (.bool E) ∧ Below w.heap.size w w' := by
  rcases form_cases k v n with ⟨rfl, z1, zE⟩ | ⟨rfl, z1, z2, zE⟩ | ⟨rfl, z1, z2, z3, zE⟩ | ⟨rfl, z1, z2, rfl, zE⟩ | ⟨rfl, rfl, zE⟩ | ⟨rfl, z1, zE⟩ | ⟨rfl, rfl, zE⟩ | ⟨rfl, z1, zE⟩ | ⟨rfl, z1, zE⟩ | ⟨rfl, z1, z2, zE⟩ | ⟨rfl, z1, z2, zE⟩ | ⟨z1, z2, z3, z4, zE⟩
  all_goals
    rw [zE] at hE
    subst hE
    clear zE
    go_enter Try.func50, Try.ntmps50
    go_wp2_with fail
    go_ret
    first
      | exact ⟨rfl, gbox _ _⟩
      | exact ⟨by show Ending.returned (.bool (decide (v ≤ (n : Int) + 1))) = _; rw [decide_eq_true z2], gbox _ _⟩
      | exact ⟨by show Ending.returned (.bool (decide (v ≤ (n : Int) + 1))) = _; rw [decide_eq_false (by omega)], gbox _ _⟩

set_option maxHeartbeats 4000000 in
set_option maxRecDepth 100000 in
theorem checkGate_core (k v : Int) (a : Option Addr) (n c : Nat) (f : Nat → Int) (m : Nat) (w : World) (hs : n * 8 ≤ 140737488351232) (hm : m ≤ 30) (h : RI w a n f) (E : Int) (hE : geE ⟨k, v, a, n, c, f⟩ m = E) :
    Calls Try.prog 46 #[.agg #[.int .i64 k, .int .i64 v, .slice a n c], .int .i64 m] w fun e w' => e = .returned (.int .i64 E) ∧ Below w.heap.size w w' := by
  have C : Hid (∀ W, Calls Try.prog 50 #[.agg #[.int .i64 k, .int .i64 v, .slice a n c]] W fun e w' => e = .returned (.bool (formV k v n)) ∧ Below W.heap.size W w') := fun W => hasForm_core k v a n c W hs _ rfl
  unfold geE at hE
  simp only [] at hE
  generalize formV k v n = F at hE C
  have HR : Hid (RI w a n f) := h
  have HB0 : Hid (Below w.heap.size w (w.alloc (.cells #[.int .i64 k, .int .i64 v, .slice a n c] 41))) := gbox _ _
  clear h
  go_enter Try.func46, Try.ntmps46
  go_wp2_with fail
  refine (C.out _).mono ?_
  rintro e w1 ⟨rfl, hb⟩
  have c2 := (hb.cell (p := ⟨w.heap.size, 2, none⟩) (by simp)).trans (show _ = some (.slice a n c) by go_simp)
  have l2 : w.heap.size < w1.heap.size := Nat.lt_of_lt_of_le (by simp) hb.size
  have B1 : Hid (Below w.heap.size w w1) := HB0.out.trans (hb.mono HB0.out.size)
  clear hb HB0 C
  cases F
  · rw [if_pos rfl] at hE
    subst hE
    go_wp2_with fail
    go_ret
    exact ⟨rfl, B1.out⟩
  · rw [if_neg (by decide)] at hE
    by_cases q : 6 < n
    · rw [if_pos q] at hE
      subst hE
      have z : (6 : Int) < (n : Int) := by omega
      go_wp2_with fail
      go_ret
      exact ⟨rfl, B1.out⟩
    · rw [if_neg q] at hE
      have z : ¬ (6 : Int) < (n : Int) := by omega
      have HE : Hid ((if okB f m n = true then (0 : Int) else 4) = E) := hE
      have HN : Hid (¬ 6 < n) := q
      clear hE q
      go_wp2_with fail
      clear c2 l2
      go_loopg [17] (n + 1) (fun g s wr => ∃ q : Nat, s = .int .i64 q ∧ n - q < g ∧ q ≤ n ∧ Hid (okB f m q = true) ∧ Hid (Below w.heap.size w wr))
      case atStart => exact ⟨0, rfl, by omega, by omega, rfl, B1.out⟩
      case round =>
        obtain ⟨q, rfl, hg, hq, HO, HB⟩ := hrel
        clear z
        by_cases hlt : q < n
        · have y1 : (q : Int) < (n : Int) := by omega
          have HQ : Hid (RI wr a n f) := HR.out.step HB.out
          obtain ⟨b, o, rfl, hb, hc⟩ := HQ.out (by omega)
          have x0 := hc q hlt
          have HF : Hid (∀ x, f q = x → ¬ (0 ≤ x ∧ x < (m : Int)) → E = 4) := fun x hx hn => by
            have := HE.out
            rw [okB_bad hlt (by rw [hx]; exact hn), if_neg (by decide)] at this
            exact this.symm
          have HT : Hid (∀ x, f q = x → 0 ≤ x → x < (m : Int) → okB f m (q + 1) = true) := fun x hx h1 h2 => by
            simp only [okB, HO.out, hx, h1, h2, decide_true, Bool.and_self]
          clear hc
          obtain ⟨x, hx⟩ : ∃ x, f q = x := ⟨_, rfl⟩
          rw [hx] at x0
          by_cases h1 : x < 0
          · have Q : Hid (E = 4) := HF.out x hx (by omega)
            go_wp2_with fail
            go_ret
            exact ⟨by rw [Q.out]; rfl, HB.out⟩
          · by_cases h2 : (m : Int) ≤ x
            · have Q : Hid (E = 4) := HF.out x hx (by omega)
              go_wp2_with fail
              go_ret
              exact ⟨by rw [Q.out]; rfl, HB.out⟩
            · have HT2 : Hid (_) := HT.out x hx (by omega) (by omega)
              clear HF HT hx
              go_wp2_with fail
              go_roundg (n - (q + 1) + 1)
              case measure => omega
              case rel => exact ⟨q + 1, by go_num, by omega, by omega, HT2.out, HB.out⟩
        · have y1 : ¬ (q : Int) < (n : Int) := by omega
          obtain rfl : q = n := by omega
          have Q : Hid (E = 0) := by
            have := HE.out
            rw [if_pos HO.out] at this
            exact this.symm
          go_wp2_with fail
          go_ret
          exact ⟨by rw [Q.out]; rfl, HB.out⟩

theorem checkGate_any (g : Gt) (m : Nat) (w : World) (hg : GW g) (hm : m ≤ 30) (h : RI w g.a g.n g.of) :
    Calls Try.prog 46 #[.agg #[.int .i64 g.k, .int .i64 g.v, .slice g.a g.n g.c], .int .i64 m] w fun e w' => e = .returned (.int .i64 (geE g m)) ∧ Below w.heap.size w w' := checkGate_core g.k g.v g.a g.n g.c g.of m w hg.small hm h _ rfl

set_option maxHeartbeats 1000000 in
theorem checkT_large (a : Option Addr) (n c : Nat) (h : n < 1 ∨ 30 < n) (w : World) : Calls Try.prog 19 #[.slice a n c] w fun e w' => e = .returned (.int .i64 2) ∧ Below w.heap.size w w' := by
  rcases h with h | h
  · have z1 : (n : Int) < 1 := by omega
    go_enter Try.func19, Try.ntmps19
    go_wp2_with fail
    go_ret
    exact ⟨rfl, Below.refl _ _⟩
  · have z1 : ¬ (n : Int) < 1 := by omega
    have z2 : (30 : Int) < (n : Int) := by omega
    go_enter Try.func19, Try.ntmps19
    go_wp2_with fail
    go_ret
    exact ⟨rfl, Below.refl _ _⟩

set_option maxHeartbeats 4000000 in
set_option maxRecDepth 100000 in
theorem checkT_small (a : Option Addr) (n c : Nat) (t : Nat → Gt) (w : World) (hn : ¬ (n < 1 ∨ 30 < n)) (h : RowG w a n t) (E : Int) (hE : chR t n = E) :
    Calls Try.prog 19 #[.slice a n c] w fun e w' => e = .returned (.int .i64 E) ∧ Below w.heap.size w w' := by
  have HR : Hid (RowG w a n t) := h
  have HE : Hid (chR t n = E) := hE
  have HN : Hid (¬ (n < 1 ∨ 30 < n)) := hn
  have z1 : ¬ (n : Int) < 1 := by omega
  have z2 : ¬ (30 : Int) < (n : Int) := by omega
  clear h hE hn
  go_enter Try.func19, Try.ntmps19
  go_wp2_with fail
  go_loopg [16] (n + 1) (fun g s wr => ∃ q : Nat, s = .int .i64 q ∧ n - q < g ∧ q ≤ n ∧ Hid (chR t q = 0) ∧ Hid (Below w.heap.size w wr))
  case atStart => exact ⟨0, rfl, by omega, by omega, rfl, Below.refl _ _⟩
  case round =>
    obtain ⟨q, rfl, hg, hq, HO, HB⟩ := hrel
    clear z1 z2
    by_cases hlt : q < n
    · have y1 : (q : Int) < (n : Int) := by omega
      have HQ : Hid (RowG wr a n t) := HR.out.step HB.out
      obtain ⟨b, o, rfl, hb, hc⟩ := HQ.out.row (by omega)
      obtain ⟨x0, x1, x2⟩ := hc q hlt
      have y3 : (q : Int) < 30 := by have := HN.out; omega
      have B1 : Hid (Below w.heap.size w (wr.alloc (.cells #[.int .i64 (t q).k, .int .i64 (t q).v, .slice (t q).a (t q).n (t q).c] 41))) := HB.out.alloc HB.out.size _
      have C : Hid (Calls Try.prog 46 #[.agg #[.int .i64 (t q).k, .int .i64 (t q).v, .slice (t q).a (t q).n (t q).c], .int .i64 q] (wr.alloc (.cells #[.int .i64 (t q).k, .int .i64 (t q).v, .slice (t q).a (t q).n (t q).c] 41)) fun e w' => e = .returned (.int .i64 (geE (t q) q)) ∧ Below (wr.alloc (.cells #[.int .i64 (t q).k, .int .i64 (t q).v, .slice (t q).a (t q).n (t q).c] 41)).heap.size (wr.alloc (.cells #[.int .i64 (t q).k, .int .i64 (t q).v, .slice (t q).a (t q).n (t q).c] 41)) w') :=
        checkGate_any (t q) q _ (HR.out.ok q hlt) (by have := HN.out; omega) ((HQ.out.of q hlt).step (gbox _ _))
      have K1 : Hid (geE (t q) q ≠ 0 → E = geE (t q) q) := fun h => HE.out.symm.trans (chR_bad HO.out hlt h)
      have K2 : Hid (geE (t q) q = 0 → chR t (q + 1) = 0) := fun h => by
        show (if chR t q = 0 then geE (t q) q else chR t q) = 0
        rw [if_pos HO.out, h]
      clear hc
      generalize geE (t q) q = G at C K1 K2
      go_wp2_with fail
      refine C.out.mono ?_
      rintro e w1 ⟨rfl, hb2⟩
      have B2 : Hid (Below w.heap.size w w1) := B1.out.trans (hb2.mono B1.out.size)
      clear hb2 B1 C x0 x1 x2
      by_cases hG : G = 0
      · subst hG
        go_wp2_with fail
        go_roundg (n - (q + 1) + 1)
        case measure => omega
        case rel => exact ⟨q + 1, by go_num, by omega, by omega, K2.out (by trivial), B2.out⟩
      · have Q : Hid (E = G) := K1.out hG
        have y2 : (G != 0) = true := by simpa using hG
        clear hG
        go_wp2_with fail
        go_ret
        exact ⟨by rw [Q.out]; rfl, B2.out⟩
    · have y1 : ¬ (q : Int) < (n : Int) := by omega
      obtain rfl : q = n := by omega
      have Q : Hid (E = 0) := HE.out.symm.trans HO.out
      go_wp2_with fail
      go_ret
      exact ⟨by rw [Q.out]; rfl, HB.out⟩

theorem checkT_any (a : Option Addr) (n c : Nat) (t : Nat → Gt) (w : World) (h : RowG w a n t) :
    Calls Try.prog 19 #[.slice a n c] w fun e w' => e = .returned (.int .i64 (chG t n)) ∧ Below w.heap.size w w' := by
  unfold chG
  by_cases q : n < 1 ∨ 30 < n
  · rw [if_pos q]
    exact checkT_large a n c q w
  · rw [if_neg q]
    exact checkT_small a n c t w q h _ rfl

end Go.Proofs.Ytacophekhknbpaa
