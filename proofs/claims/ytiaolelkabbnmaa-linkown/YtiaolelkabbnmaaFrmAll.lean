/-
  What frame.Read and the document's FrameRead tell, for every text: one and the same.
-/
import Derived.Test.YtiaolelkabbnmaaRFrmGet
import Derived.Test.YtiaolelkabbnmaaRFrmText
namespace Go.Proofs.Ytiaolelkabbnmaa
open Go.RowKit
set_option linter.unusedVariables false

/-- what is told of a text: an error -/
def rdE (s : ByteArray) : Int :=
  if 4095 < s.size then 2 else if s.size < 2 then 3 else if crcN s ≠ 0 then 5 else if s.size < 5 then 3 else if s.size - 5 ≠ 4 * bt s 2 then 4 else frE ((bt s 0 : Int) / 16) ((bt s 0 : Int) % 16) (bt s 2)
/-- a frame, its words apart -/
structure Fr where
  K : Int
  L : Int
  S : Int
  n : Nat
  l : Nat → Int
/-- the k-th word -/
def rdW (s : ByteArray) (k : Nat) : Int := sg (bt s (3 + 4 * k)) (bt s (3 + 4 * k + 1)) (bt s (3 + 4 * k + 2)) (bt s (3 + 4 * k + 3))
def frNone : Fr := ⟨0, 0, 0, 0, fun _ => 0⟩
/-- what is told of a text: a frame -/
def rdF (s : ByteArray) : Fr := if rdE s = 0 then ⟨(bt s 0 : Int) / 16, (bt s 0 : Int) % 16, bt s 1, bt s 2, rdW s⟩ else frNone
theorem rdF_bad {s : ByteArray} (h : rdE s ≠ 0) : rdF s = frNone := by unfold rdF; rw [if_neg h]
theorem rdF_ok {s : ByteArray} (h : rdE s = 0) : rdF s = ⟨(bt s 0 : Int) / 16, (bt s 0 : Int) % 16, bt s 1, bt s 2, rdW s⟩ := by unfold rdF; rw [if_pos h]
theorem wd_cut (s : ByteArray) (n m j : Nat) (hn : n ≤ s.size) (hm : n = 3 + 4 * m) (hj : j < m) : wd ((s.extract 0 n).extract 3 (s.extract 0 n).size) j = rdW s j := by
  have hx : (s.extract 0 n).size = n := by rw [extract_size _ _ _ hn]; rfl
  have h1 : ∀ k, 3 + k < n → bt ((s.extract 0 n).extract 3 n) k = bt s (3 + k) := fun k hk => by
    rw [bt_tail _ _ _ _ hk, bt_extract _ _ _ hk]
  unfold wd rdW
  rw [hx, h1 _ (by omega), h1 _ (by omega), h1 _ (by omega), h1 _ (by omega)]
  simp only [Nat.add_assoc]
theorem Wds.congr {w : World} {a : Option Addr} {n : Nat} {l l' : Nat → Int} (h : Wds w a n l) (e : ∀ k, k < n → l k = l' k) : Wds w a n l' := fun h0 => by
  obtain ⟨b, o, h1, h2, h3⟩ := h h0
  exact ⟨b, o, h1, h2, fun j hj => by rw [h3 j hj, e j hj]⟩
theorem wds_zero (w : World) (a : Option Addr) (l : Nat → Int) : Wds w a 0 l := fun h => absurd h (by omega)

/-- the ways of a text -/
theorem ways (s : ByteArray) : 4095 < s.size ∨ s.size < 2 ∨ (2 ≤ s.size ∧ s.size ≤ 4095 ∧ crcN s ≠ 0) ∨ (∃ n, s.size = n + 2 ∧ s.size ≤ 4095 ∧ crcN s = 0 ∧ n < 3) ∨ (∃ n, s.size = n + 2 ∧ s.size ≤ 4095 ∧ crcN s = 0 ∧ 3 ≤ n ∧ n - 3 ≠ 4 * bt s 2) ∨ (∃ n, s.size = n + 2 ∧ s.size ≤ 4095 ∧ crcN s = 0 ∧ n = 3 + 4 * bt s 2) := by
  rcases Nat.lt_or_ge 4095 s.size with h1 | h1
  · exact .inl h1
  rcases Nat.lt_or_ge s.size 2 with h2 | h2
  · exact .inr (.inl h2)
  by_cases hc : crcN s = 0
  · rcases Nat.lt_or_ge (s.size - 2) 3 with h3 | h3
    · exact .inr (.inr (.inr (.inl ⟨s.size - 2, by omega, h1, hc, h3⟩)))
    · by_cases hf : s.size - 2 - 3 = 4 * bt s 2
      · exact .inr (.inr (.inr (.inr (.inr ⟨s.size - 2, by omega, h1, hc, by omega⟩))))
      · exact .inr (.inr (.inr (.inr (.inl ⟨s.size - 2, by omega, h1, hc, h3, hf⟩))))
  · exact .inr (.inr (.inl ⟨h2, h1, hc⟩))
theorem rdE_large {s : ByteArray} (h : 4095 < s.size) : rdE s = 2 := by unfold rdE; rw [if_pos h]
theorem rdE_two {s : ByteArray} (h : s.size < 2) : rdE s = 3 := by unfold rdE; rw [if_neg (by omega), if_pos h]
theorem rdE_sum {s : ByteArray} (h2 : 2 ≤ s.size) (h : s.size ≤ 4095) (hc : crcN s ≠ 0) : rdE s = 5 := by unfold rdE; rw [if_neg (by omega), if_neg (by omega), if_pos hc]
theorem rdE_short {s : ByteArray} {n : Nat} (h2 : s.size = n + 2) (h : s.size ≤ 4095) (hc : crcN s = 0) (h3 : n < 3) : rdE s = 3 := by unfold rdE; rw [if_neg (by omega), if_neg (by omega), if_neg (by omega), if_pos (by omega)]
theorem rdE_form {s : ByteArray} {n : Nat} (h2 : s.size = n + 2) (h : s.size ≤ 4095) (hc : crcN s = 0) (h3 : 3 ≤ n) (hf : n - 3 ≠ 4 * bt s 2) : rdE s = 4 := by unfold rdE; rw [if_neg (by omega), if_neg (by omega), if_neg (by omega), if_neg (by omega), if_pos (by omega)]
theorem rdE_more {s : ByteArray} {n : Nat} (h2 : s.size = n + 2) (h : s.size ≤ 4095) (hc : crcN s = 0) (hf : n = 3 + 4 * bt s 2) : rdE s = frE ((bt s 0 : Int) / 16) ((bt s 0 : Int) % 16) (bt s 2) := by unfold rdE; rw [if_neg (by omega), if_neg (by omega), if_neg (by omega), if_neg (by omega), if_neg (by omega)]
/-- a frame is told only of a text of its form -/
theorem rdE_zero {s : ByteArray} (h : rdE s = 0) : ∃ n, s.size = n + 2 ∧ s.size ≤ 4095 ∧ crcN s = 0 ∧ n = 3 + 4 * bt s 2 ∧ frE ((bt s 0 : Int) / 16) ((bt s 0 : Int) % 16) (bt s 2) = 0 := by
  rcases ways s with g | g | ⟨g1, g2, g3⟩ | ⟨n, g1, g2, g3, g4⟩ | ⟨n, g1, g2, g3, g4, g5⟩ | ⟨n, g1, g2, g3, g4⟩
  · rw [rdE_large g] at h; omega
  · rw [rdE_two g] at h; omega
  · rw [rdE_sum g1 g2 g3] at h; omega
  · rw [rdE_short g1 g2 g3 g4] at h; omega
  · rw [rdE_form g1 g2 g3 g4 g5] at h; omega
  · exact ⟨n, g1, g2, g3, g4, by rw [← rdE_more g1 g2 g3 g4]; exact h⟩

/-- what Read tells -/
theorem read_any (s : ByteArray) (w : World) (hs : s.size ≤ 140737488351232) :
    Calls Try.prog 17 #[.string s] w fun e w' => ∃ a c, e = .returned (.tuple #[.agg #[.int .i64 (rdF s).K, .int .i64 (rdF s).L, .int .u8 (rdF s).S, .slice a (rdF s).n c], .int .i64 (rdE s)]) ∧ Wds w' a (rdF s).n (rdF s).l ∧ (∀ x, a = some x → w.heap.size < x.block) ∧ Below w.heap.size w w' := by
  have bad : ∀ E, rdE s = E → E ≠ 0 → Calls Try.prog 17 #[.string s] w (fun e w' => e = .returned (.tuple #[.agg #[.int .i64 0, .int .i64 0, .int .u8 0, .slice none 0 0], .int .i64 E]) ∧ Below w.heap.size w w') → Calls Try.prog 17 #[.string s] w fun e w' => ∃ a c, e = .returned (.tuple #[.agg #[.int .i64 (rdF s).K, .int .i64 (rdF s).L, .int .u8 (rdF s).S, .slice a (rdF s).n c], .int .i64 (rdE s)]) ∧ Wds w' a (rdF s).n (rdF s).l ∧ (∀ x, a = some x → w.heap.size < x.block) ∧ Below w.heap.size w w' := fun E hE h0 hc => by
    rw [rdF_bad (by rw [hE]; exact h0), hE]
    refine hc.mono fun e w' ⟨h1, h2⟩ => ⟨none, 0, h1, wds_zero _ _ _, fun x hx => (by cases hx), h2⟩
  rcases ways s with g | g | ⟨g1, g2, g3⟩ | ⟨n, g1, g2, g3, g4⟩ | ⟨n, g1, g2, g3, g4, g5⟩ | ⟨n, g1, g2, g3, g4⟩
  · refine bad 2 (rdE_large g) (by decide) (read_err s 2 w (by decide) fun W => (get_large s W hs g).mono ?_)
    rintro e w' ⟨rfl, rfl⟩
    exact ⟨rfl, Below.refl _ _⟩
  · refine bad 3 (rdE_two g) (by decide) (read_err s 3 w (by decide) fun W => (get_short s W g).mono ?_)
    rintro e w' ⟨rfl, rfl⟩
    exact ⟨rfl, Below.refl _ _⟩
  · exact bad 5 (rdE_sum g1 g2 g3) (by decide) (read_err s 5 w (by decide) fun W => get_wrong s W g1 g2 g3)
  · have hx : (s.extract 0 n).size = n := by rw [extract_size _ _ _ (by omega)]; rfl
    exact bad 3 (rdE_short g1 g2 g3 g4) (by decide) (read_short s (s.extract 0 n) w (by omega) fun W => get_right s n W g1 g2 g3)
  · have hx : (s.extract 0 n).size = n := by rw [extract_size _ _ _ (by omega)]; rfl
    exact bad 4 (rdE_form g1 g2 g3 g4 g5) (by decide) (read_form s (s.extract 0 n) w (by omega) (by rw [hx, bt_extract _ _ _ (by omega)]; exact g5) fun W => get_right s n W g1 g2 g3)
  · have hx : (s.extract 0 n).size = n := by rw [extract_size _ _ _ (by omega)]; rfl
    have h0 : bt (s.extract 0 n) 0 = bt s 0 := bt_extract _ _ _ (by omega)
    have h1 : bt (s.extract 0 n) 1 = bt s 1 := bt_extract _ _ _ (by omega)
    have h2 : bt (s.extract 0 n) 2 = bt s 2 := bt_extract _ _ _ (by omega)
    have hE := rdE_more g1 g2 g3 g4
    have hr := read_more s (s.extract 0 n) (bt s 2) w (by omega) h2 fun W => get_right s n W g1 g2 g3
    rw [h0, h1, ← hE] at hr
    refine hr.mono fun e w' ⟨g, r1, r2, r3, r4, r5⟩ => ?_
    rcases r5 with ⟨q, rfl⟩ | ⟨q, rfl⟩
    · rw [rdF_ok q, q]
      refine ⟨some ⟨g, 0, none⟩, bt s 2, rfl, ?_, fun x hx => (by cases hx; exact r3), r4⟩
      exact Wds.congr (fun _ => ⟨g, 0, rfl, r2, r1⟩) fun k hk => wd_cut s n (bt s 2) k (by omega) g4 hk
    · rw [rdF_bad q]
      exact ⟨none, 0, rfl, wds_zero _ _ _, fun x hx => (by cases hx), r4⟩

theorem rget_wrong (u : ByteArray) (w : World) (h2 : 2 ≤ u.size) (h : u.size ≤ 4095) (hc : crcN u ≠ 0) :
    Calls Try.prog 39 #[.string u] w fun e w' => e = .returned (.tuple #[.string ⟨#[]⟩, .int .i64 5]) ∧ Below w.heap.size w w' := by
  obtain ⟨n, hn⟩ : ∃ n, u.size = n + 2 := ⟨u.size - 2, by omega⟩
  exact rget_any u n w hn h _ (Or.inr ⟨by rw [right_iff u n hn]; exact decide_eq_false hc, rfl⟩)

theorem rget_right (u : ByteArray) (n : Nat) (w : World) (hn : u.size = n + 2) (h : u.size ≤ 4095) (hc : crcN u = 0) :
    Calls Try.prog 39 #[.string u] w fun e w' => e = .returned (.tuple #[.string (u.extract 0 n), .int .i64 0]) ∧ Below w.heap.size w w' :=
  rget_any u n w hn h _ (Or.inl ⟨by rw [right_iff u n hn]; exact decide_eq_true hc, rfl⟩)

/-- what the document's FrameRead tells -/
theorem rread_any (s : ByteArray) (w : World) (hs : s.size ≤ 140737488351232) :
    Calls Try.prog 33 #[.string s] w fun e w' => ∃ a c, e = .returned (.tuple #[.agg #[.int .i64 (rdF s).K, .int .i64 (rdF s).L, .int .u8 (rdF s).S, .slice a (rdF s).n c], .int .i64 (rdE s)]) ∧ Wds w' a (rdF s).n (rdF s).l ∧ Below w.heap.size w w' := by
  have bad : ∀ E, rdE s = E → E ≠ 0 → Calls Try.prog 33 #[.string s] w (fun e w' => e = .returned (.tuple #[.agg #[.int .i64 0, .int .i64 0, .int .u8 0, .slice none 0 0], .int .i64 E]) ∧ Below w.heap.size w w') → Calls Try.prog 33 #[.string s] w fun e w' => ∃ a c, e = .returned (.tuple #[.agg #[.int .i64 (rdF s).K, .int .i64 (rdF s).L, .int .u8 (rdF s).S, .slice a (rdF s).n c], .int .i64 (rdE s)]) ∧ Wds w' a (rdF s).n (rdF s).l ∧ Below w.heap.size w w' := fun E hE h0 hc => by
    rw [rdF_bad (by rw [hE]; exact h0), hE]
    refine hc.mono fun e w' ⟨h1, h2⟩ => ⟨none, 0, h1, wds_zero _ _ _, h2⟩
  rcases ways s with g | g | ⟨g1, g2, g3⟩ | ⟨n, g1, g2, g3, g4⟩ | ⟨n, g1, g2, g3, g4, g5⟩ | ⟨n, g1, g2, g3, g4⟩
  · refine bad 2 (rdE_large g) (by decide) (rread_err s 2 w (by decide) fun W => (rget_large s W hs g).mono ?_)
    rintro e w' ⟨rfl, rfl⟩
    exact ⟨rfl, Below.refl _ _⟩
  · refine bad 3 (rdE_two g) (by decide) (rread_err s 3 w (by decide) fun W => (rget_short s W g).mono ?_)
    rintro e w' ⟨rfl, rfl⟩
    exact ⟨rfl, Below.refl _ _⟩
  · exact bad 5 (rdE_sum g1 g2 g3) (by decide) (rread_err s 5 w (by decide) fun W => rget_wrong s W g1 g2 g3)
  · have hx : (s.extract 0 n).size = n := by rw [extract_size _ _ _ (by omega)]; rfl
    exact bad 3 (rdE_short g1 g2 g3 g4) (by decide) (rread_short s (s.extract 0 n) w (by omega) fun W => rget_right s n W g1 g2 g3)
  · have hx : (s.extract 0 n).size = n := by rw [extract_size _ _ _ (by omega)]; rfl
    exact bad 4 (rdE_form g1 g2 g3 g4 g5) (by decide) (rread_form s (s.extract 0 n) w (by omega) (by omega) (by rw [hx, bt_extract _ _ _ (by omega)]; exact g5) fun W => rget_right s n W g1 g2 g3)
  · have hx : (s.extract 0 n).size = n := by rw [extract_size _ _ _ (by omega)]; rfl
    have h0 : bt (s.extract 0 n) 0 = bt s 0 := bt_extract _ _ _ (by omega)
    have h1 : bt (s.extract 0 n) 1 = bt s 1 := bt_extract _ _ _ (by omega)
    have h2 : bt (s.extract 0 n) 2 = bt s 2 := bt_extract _ _ _ (by omega)
    have hE := rdE_more g1 g2 g3 g4
    have hr := rread_more s (s.extract 0 n) (bt s 2) w (by omega) h2 fun W => rget_right s n W g1 g2 g3
    rw [h0, h1, ← hE] at hr
    refine hr.mono fun e w' ⟨a, c, r1, r4, r5⟩ => ?_
    rcases r5 with ⟨q, rfl⟩ | ⟨q, rfl⟩
    · rw [rdF_ok q, q]
      exact ⟨a, c, rfl, r1.congr fun k hk => wd_cut s n (bt s 2) k (by omega) g4 hk, r4⟩
    · rw [rdF_bad q]
      exact ⟨none, 0, rfl, wds_zero _ _ _, r4⟩

/-- what Pack tells -/
def pkE (f : Fr) : Int := frE f.K f.L f.n
def pkT (f : Fr) : ByteArray := if pkE f = 0 then frT f.K f.L f.S f.n f.l ++ two (crcN (frT f.K f.L f.S f.n f.l)) else ⟨#[]⟩

theorem pack_any (f : Fr) (a : Option Addr) (c : Nat) (w : World) (s0 : 0 ≤ f.S) (s1 : f.S < 256) (hr : Wds w a f.n f.l) :
    Calls Try.prog 20 #[.agg #[.int .i64 f.K, .int .i64 f.L, .int .u8 f.S, .slice a f.n c]] w fun e w' => e = .returned (.tuple #[.string (pkT f), .int .i64 (pkE f)]) ∧ Below w.heap.size w w' := by
  by_cases h : pkE f = 0
  · unfold pkT
    rw [if_pos h, h]
    exact pack_ok f.K f.L f.S a f.n c f.l w h s0 s1 hr
  · unfold pkT
    rw [if_neg h]
    exact pack_bad f.K f.L f.S (pkE f) a f.n c w rfl h

end Go.Proofs.Ytiaolelkabbnmaa
