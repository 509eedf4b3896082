/-
  Points of a profile as plain data: which are right, what is wrong with a profile. A row of them somewhere in memory; contracts of stroke.Check and Time, and the document's ProfileErr. Of the memory that was there nothing turns.
-/
import Derived.Test.YtihcioghbidblaaBxs
import Derived.Handy
import Derived.Deep.LoopGhost
import Derived.Deep.DeepCutAuto
namespace Go.Proofs.Ytihcioghbidblaa
open Go.RowKit
set_option linter.unusedVariables false

/-- a point: what is wanted, for how many frames, how wide of it -/
structure Pt where
  w : Int
  f : Int
  d : Int

/-- a point is right -/
def okP (x : Pt) : Prop := 1 ≤ x.f ∧ x.f ≤ 200 ∧ 0 ≤ x.d
/-- the first n are right -/
def okPs (l : Nat → Pt) (n : Nat) : Prop := ∀ j, j < n → okP (l j)
open Classical in
/-- what Check tells -/
noncomputable def chP (l : Nat → Pt) (n : Nat) : Int := if n < 1 ∨ 16 < n then 2 else if okPs l n then 0 else 1
theorem chP_large {l : Nat → Pt} {n : Nat} (h : n < 1 ∨ 16 < n) : chP l n = 2 := by unfold chP; rw [if_pos h]
theorem chP_ok {l : Nat → Pt} {n : Nat} (h : ¬ (n < 1 ∨ 16 < n)) (h2 : okPs l n) : chP l n = 0 := by unfold chP; rw [if_neg h, if_pos h2]
theorem chP_bad {l : Nat → Pt} {n j : Nat} (h : ¬ (n < 1 ∨ 16 < n)) (hj : j < n) (h2 : ¬ okP (l j)) : chP l n = 1 := by unfold chP; rw [if_neg h, if_neg (fun k => h2 (k j hj))]
theorem chP_zero {l : Nat → Pt} {n : Nat} (h : chP l n = 0) : 1 ≤ n ∧ n ≤ 16 ∧ okPs l n := by
  unfold chP at h
  split at h
  · cases h
  · split at h
    · rename_i q r
      exact ⟨by omega, by omega, r⟩
    · cases h
/-- all frames of the first n together -/
def tmP (l : Nat → Pt) : Nat → Int
  | 0 => 0
  | k + 1 => tmP l k + (l k).f
theorem tmP_bd {l : Nat → Pt} {n k : Nat} (h : okPs l n) (hk : k ≤ n) : (k : Int) ≤ tmP l k ∧ tmP l k ≤ 200 * (k : Int) := by
  induction k with
  | zero => exact ⟨by simp [tmP], by simp [tmP]⟩
  | succ k ih =>
    obtain ⟨i1, i2⟩ := ih (by omega)
    obtain ⟨p1, p2, _⟩ := h k (by omega)
    have e : tmP l (k + 1) = tmP l k + (l k).f := rfl
    rw [e]
    omega

/-- a point lies there -/
structure PAt (w : World) (b o : Nat) (x : Pt) : Prop where
  hw : w.cell? ⟨b, o, none⟩ = some (.int .i32 x.w)
  hf : w.cell? ⟨b, o + 1, none⟩ = some (.int .i64 x.f)
  hd : w.cell? ⟨b, o + 2, none⟩ = some (.int .i32 x.d)
theorem PAt.step {w w' : World} {b o : Nat} {x : Pt} (h : PAt w b o x) (hb : Below w.heap.size w w') (hl : b < w.heap.size) : PAt w' b o x :=
  ⟨(hb.cell (p := ⟨b, o, none⟩) hl).trans h.hw, (hb.cell (p := ⟨b, o + 1, none⟩) hl).trans h.hf, (hb.cell (p := ⟨b, o + 2, none⟩) hl).trans h.hd⟩
/-- n points that lie one behind another in memory that is there; or none -/
def RowP (w : World) (a : Option Addr) (n : Nat) (l : Nat → Pt) : Prop := 0 < n → ∃ b o, a = some ⟨b, o, none⟩ ∧ b < w.heap.size ∧ ∀ j, j < n → PAt w b (o + j * 3) (l j)
theorem RowP.step {w w' : World} {a : Option Addr} {n : Nat} {l : Nat → Pt} (h : RowP w a n l) (hb : Below w.heap.size w w') : RowP w' a n l := fun hn => by
  obtain ⟨b, o, rfl, h1, h2⟩ := h hn
  exact ⟨b, o, rfl, Nat.lt_of_lt_of_le h1 hb.size, fun j hj => (h2 j hj).step hb h1⟩
theorem RowP.fewer {w : World} {a : Option Addr} {n m : Nat} {l : Nat → Pt} (h : RowP w a n l) (hm : m ≤ n) : RowP w a m l := fun hn => by
  obtain ⟨b, o, rfl, h1, h2⟩ := h (by omega)
  exact ⟨b, o, rfl, h1, fun j hj => h2 j (by omega)⟩
theorem okP_cases (x : Pt) : x.f < 1 ∨ (¬ x.f < 1 ∧ 200 < x.f) ∨ (¬ x.f < 1 ∧ ¬ 200 < x.f ∧ x.d < 0) ∨ (¬ x.f < 1 ∧ ¬ 200 < x.f ∧ ¬ x.d < 0) := by omega

set_option maxHeartbeats 1000000 in
theorem ckP_large (a : Option Addr) (n c : Nat) (h : n < 1 ∨ 16 < n) (w : World) : Calls Try.prog 10 #[.slice a n c] w fun e w' => e = .returned (.int .i64 2) ∧ Below w.heap.size w w' := by
  rcases h with h | h
  · have z1 : (n : Int) < 1 := by omega
    go_enter Try.func10, Try.ntmps10
    go_wp2_with fail
    go_ret
    exact ⟨rfl, Below.refl _ _⟩
  · have z1 : ¬ (n : Int) < 1 := by omega
    have z2 : (16 : Int) < (n : Int) := by omega
    go_enter Try.func10, Try.ntmps10
    go_wp2_with fail
    go_ret
    exact ⟨rfl, Below.refl _ _⟩

set_option maxHeartbeats 4000000 in
set_option maxRecDepth 100000 in
theorem ckP_small (a : Option Addr) (n c : Nat) (l : Nat → Pt) (w : World) (hn : ¬ (n < 1 ∨ 16 < n)) (h : RowP w a n l) (E : Int) (hE : chP l n = E) :
    Calls Try.prog 10 #[.slice a n c] w fun e w' => e = .returned (.int .i64 E) ∧ Below w.heap.size w w' := by
  have HR : Hid (RowP w a n l) := h
  have HE : Hid (chP l n = E) := hE
  have HN : Hid (¬ (n < 1 ∨ 16 < n)) := hn
  have z1 : ¬ (n : Int) < 1 := by omega
  have z2 : ¬ (16 : Int) < (n : Int) := by omega
  clear h hE hn
  go_enter Try.func10, Try.ntmps10
  go_wp2_with fail
  go_loopg [15] (n + 1) (fun g s wr => ∃ q : Nat, s = .int .i64 q ∧ n - q < g ∧ q ≤ n ∧ Hid (okPs l q) ∧ Hid (Below w.heap.size w wr))
  case atStart => exact ⟨0, rfl, by omega, by omega, fun j hj => absurd hj (by omega), Below.refl _ _⟩
  case round =>
    obtain ⟨q, rfl, hg, hq, hf, hB⟩ := hrel
    by_cases hlt : q < n
    · have y1 : (q : Int) < (n : Int) := by omega
      have HQ : Hid (RowP wr a n l) := HR.out.step hB.out
      obtain ⟨b, o, rfl, hb, hc⟩ := HQ.out (by omega)
      obtain ⟨x0, x1, x2⟩ := hc q hlt
      have B1 : Hid (Below w.heap.size w (wr.alloc (.cells #[.int .i32 (l q).w, .int .i64 (l q).f, .int .i32 (l q).d] 40))) := hB.out.alloc hB.out.size _
      rcases okP_cases (l q) with h1 | ⟨h1, h2⟩ | ⟨h1, h2, h3⟩ | ⟨h1, h2, h3⟩
      · have Q : Hid (E = 1) := HE.out.symm.trans (chP_bad HN.out hlt (fun k => absurd k.1 (by omega)))
        go_wp2_with fail
        go_ret
        exact ⟨by rw [Q.out]; rfl, B1.out⟩
      · have Q : Hid (E = 1) := HE.out.symm.trans (chP_bad HN.out hlt (fun k => absurd k.2.1 (by omega)))
        go_wp2_with fail
        go_ret
        exact ⟨by rw [Q.out]; rfl, B1.out⟩
      · have Q : Hid (E = 1) := HE.out.symm.trans (chP_bad HN.out hlt (fun k => absurd k.2.2 (by omega)))
        go_wp2_with fail
        go_ret
        exact ⟨by rw [Q.out]; rfl, B1.out⟩
      · have HK : Hid (okPs l (q + 1)) := fun j hj => by
          by_cases e : j < q
          · exact hf.out j e
          · obtain rfl : j = q := by omega
            exact ⟨by omega, by omega, by omega⟩
        clear hc
        go_wp2_with fail
        go_roundg (n - (q + 1) + 1)
        case measure => omega
        case rel => exact ⟨q + 1, by go_num, by omega, by omega, HK, B1⟩
    · have y1 : ¬ (q : Int) < (n : Int) := by omega
      obtain rfl : q = n := by omega
      have Q : Hid (E = 0) := HE.out.symm.trans (chP_ok HN.out hf.out)
      go_wp2_with fail
      go_ret
      exact ⟨by rw [Q.out]; rfl, hB.out⟩

theorem ckP_any (a : Option Addr) (n c : Nat) (l : Nat → Pt) (w : World) (h : RowP w a n l) :
    Calls Try.prog 10 #[.slice a n c] w fun e w' => e = .returned (.int .i64 (chP l n)) ∧ Below w.heap.size w w' := by
  by_cases q : n < 1 ∨ 16 < n
  · rw [chP_large q]
    exact ckP_large a n c q w
  · exact ckP_small a n c l w q h _ rfl

set_option maxHeartbeats 1000000 in
theorem rckP_large (a : Option Addr) (n c : Nat) (h : n < 1 ∨ 16 < n) (w : World) : Calls Try.prog 6 #[.slice a n c] w fun e w' => e = .returned (.int .i64 2) ∧ Below w.heap.size w w' := by
  rcases h with h | h
  · have z1 : (n : Int) < 1 := by omega
    go_enter Try.func6, Try.ntmps6
    go_wp2_with fail
    go_ret
    exact ⟨rfl, Below.refl _ _⟩
  · have z1 : ¬ (n : Int) < 1 := by omega
    have z2 : (16 : Int) < (n : Int) := by omega
    go_enter Try.func6, Try.ntmps6
    go_wp2_with fail
    go_ret
    exact ⟨rfl, Below.refl _ _⟩

set_option maxHeartbeats 4000000 in
set_option maxRecDepth 100000 in
theorem rckP_small (a : Option Addr) (n c : Nat) (l : Nat → Pt) (w : World) (hn : ¬ (n < 1 ∨ 16 < n)) (h : RowP w a n l) (E : Int) (hE : chP l n = E) :
    Calls Try.prog 6 #[.slice a n c] w fun e w' => e = .returned (.int .i64 E) ∧ Below w.heap.size w w' := by
  have HR : Hid (RowP w a n l) := h
  have HE : Hid (chP l n = E) := hE
  have HN : Hid (¬ (n < 1 ∨ 16 < n)) := hn
  have z1 : ¬ (n : Int) < 1 := by omega
  have z2 : ¬ (16 : Int) < (n : Int) := by omega
  clear h hE hn
  go_enter Try.func6, Try.ntmps6
  go_wp2_with fail
  go_loopg [15] (n + 1) (fun g s wr => ∃ q : Nat, s = .int .i64 q ∧ n - q < g ∧ q ≤ n ∧ Hid (okPs l q) ∧ Hid (Below w.heap.size w wr))
  case atStart => exact ⟨0, rfl, by omega, by omega, fun j hj => absurd hj (by omega), Below.refl _ _⟩
  case round =>
    obtain ⟨q, rfl, hg, hq, hf, hB⟩ := hrel
    by_cases hlt : q < n
    · have y1 : (q : Int) < (n : Int) := by omega
      have HQ : Hid (RowP wr a n l) := HR.out.step hB.out
      obtain ⟨b, o, rfl, hb, hc⟩ := HQ.out (by omega)
      obtain ⟨x0, x1, x2⟩ := hc q hlt
      have B1 : Hid (Below w.heap.size w (wr.alloc (.cells #[.int .i32 (l q).w, .int .i64 (l q).f, .int .i32 (l q).d] 40))) := hB.out.alloc hB.out.size _
      rcases okP_cases (l q) with h1 | ⟨h1, h2⟩ | ⟨h1, h2, h3⟩ | ⟨h1, h2, h3⟩
      · have Q : Hid (E = 1) := HE.out.symm.trans (chP_bad HN.out hlt (fun k => absurd k.1 (by omega)))
        go_wp2_with fail
        go_ret
        exact ⟨by rw [Q.out]; rfl, B1.out⟩
      · have Q : Hid (E = 1) := HE.out.symm.trans (chP_bad HN.out hlt (fun k => absurd k.2.1 (by omega)))
        go_wp2_with fail
        go_ret
        exact ⟨by rw [Q.out]; rfl, B1.out⟩
      · have Q : Hid (E = 1) := HE.out.symm.trans (chP_bad HN.out hlt (fun k => absurd k.2.2 (by omega)))
        go_wp2_with fail
        go_ret
        exact ⟨by rw [Q.out]; rfl, B1.out⟩
      · have HK : Hid (okPs l (q + 1)) := fun j hj => by
          by_cases e : j < q
          · exact hf.out j e
          · obtain rfl : j = q := by omega
            exact ⟨by omega, by omega, by omega⟩
        clear hc
        go_wp2_with fail
        go_roundg (n - (q + 1) + 1)
        case measure => omega
        case rel => exact ⟨q + 1, by go_num, by omega, by omega, HK, B1⟩
    · have y1 : ¬ (q : Int) < (n : Int) := by omega
      obtain rfl : q = n := by omega
      have Q : Hid (E = 0) := HE.out.symm.trans (chP_ok HN.out hf.out)
      go_wp2_with fail
      go_ret
      exact ⟨by rw [Q.out]; rfl, hB.out⟩

theorem rckP_any (a : Option Addr) (n c : Nat) (l : Nat → Pt) (w : World) (h : RowP w a n l) :
    Calls Try.prog 6 #[.slice a n c] w fun e w' => e = .returned (.int .i64 (chP l n)) ∧ Below w.heap.size w w' := by
  by_cases q : n < 1 ∨ 16 < n
  · rw [chP_large q]
    exact rckP_large a n c q w
  · exact rckP_small a n c l w q h _ rfl

set_option maxHeartbeats 1000000 in
theorem tmP_bad (a : Option Addr) (n c : Nat) (l : Nat → Pt) (w : World) (h : RowP w a n l) (E : Int) (hE : chP l n = E) (h0 : E ≠ 0) :
    Calls Try.prog 7 #[.slice a n c] w fun e w' => e = .returned (.tuple #[.int .i64 0, .int .i64 E]) ∧ Below w.heap.size w w' := by
  have C := ckP_any a n c l w h
  rw [hE] at C
  have q : (E != 0) = true := by simpa using h0
  clear h hE
  go_enter Try.func7, Try.ntmps7
  go_wp2_with fail
  refine C.mono ?_
  rintro e w1 ⟨rfl, hb⟩
  have B1 : Hid (_) := hb
  clear hb C
  go_wp2_with fail
  go_ret2
  exact ⟨rfl, B1.out⟩

set_option maxHeartbeats 4000000 in
set_option maxRecDepth 100000 in
theorem tmP_ok (a : Option Addr) (n c : Nat) (l : Nat → Pt) (w : World) (h : RowP w a n l) (hE : chP l n = 0) :
    Calls Try.prog 7 #[.slice a n c] w fun e w' => e = .returned (.tuple #[.int .i64 (tmP l n), .int .i64 0]) ∧ Below w.heap.size w w' := by
  have C := ckP_any a n c l w h
  rw [hE] at C
  have HR : Hid (RowP w a n l) := h
  have HO : Hid (okPs l n) := (chP_zero hE).2.2
  have HN : Hid (n ≤ 16) := (chP_zero hE).2.1
  clear h hE
  go_enter Try.func7, Try.ntmps7
  go_wp2_with fail
  refine C.mono ?_
  rintro e w1 ⟨rfl, hb1⟩
  have B1 : Hid (_) := hb1
  clear hb1 C
  go_wp2_with fail
  go_loopg [5, 15] (n + 1) (fun g s5 s wr => ∃ q : Nat, s = .int .i64 q ∧ s5 = .int .i64 (tmP l q) ∧ n - q < g ∧ q ≤ n ∧ Hid (Below w.heap.size w wr))
  case atStart => exact ⟨0, rfl, rfl, by omega, by omega, B1⟩
  case round =>
    obtain ⟨q, rfl, rfl, hg, hq, hB⟩ := hrel
    by_cases hlt : q < n
    · have y1 : (q : Int) < (n : Int) := by omega
      have HQ : Hid (RowP wr a n l) := HR.out.step hB.out
      obtain ⟨b, o, rfl, hb, hc⟩ := HQ.out (by omega)
      obtain ⟨x0, x1, x2⟩ := hc q hlt
      have B2 : Hid (Below w.heap.size w (wr.alloc (.cells #[.int .i32 (l q).w, .int .i64 (l q).f, .int .i32 (l q).d] 40))) := hB.out.alloc hB.out.size _
      have z3 : (q : Int) < 16 := by have := HN.out; omega
      have T : Hid (wrap64 (tmP l q + (l q).f) = tmP l (q + 1)) := by
        show wrap64 (tmP l q + (l q).f) = tmP l (q + 1)
        obtain ⟨t1, t2⟩ := tmP_bd HO.out (show q + 1 ≤ n by omega)
        have := HN.out
        have e : tmP l q + (l q).f = tmP l (q + 1) := rfl
        rw [e]
        exact IntWalk.wrap64_in _ (by omega)
      clear hc
      go_wp2_with fail
      go_roundg (n - (q + 1) + 1)
      case measure => omega
      case rel => exact ⟨q + 1, by go_num, by rw [T.out], by omega, by omega, B2⟩
    · have y1 : ¬ (q : Int) < (n : Int) := by omega
      obtain rfl : q = n := by omega
      go_wp2_with fail
      go_ret2
      exact ⟨rfl, hB.out⟩

end Go.Proofs.Ytihcioghbidblaa
