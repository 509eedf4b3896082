/-
  A frame is read as it was packed; what is read is packed as just those bytes: plain facts on bytes.
-/
import Derived.Test.YtiaolelkabbnmaaFrmAll
namespace Go.Proofs.Ytiaolelkabbnmaa
open Go.RowKit
set_option linter.unusedVariables false

theorem bt_ext {s t : ByteArray} (hs : s.size = t.size) (h : ∀ k, k < s.size → bt s k = bt t k) : s = t := by
  have e : s.toList = t.toList := by
    refine List.ext_getElem? fun k => ?_
    rcases Nat.lt_or_ge k s.size with hk | hk
    · have h1 := h k hk
      rw [bt_eq, bt_eq] at h1
      rw [List.getElem?_eq_getElem (by rw [length_toList]; exact hk), List.getElem?_eq_getElem (by rw [length_toList]; omega)] at h1 ⊢
      simp only [Option.map_some, Option.getD_some] at h1
      rw [UInt8.toNat_inj.1 h1]
    · rw [List.getElem?_eq_none (by rw [length_toList]; exact hk), List.getElem?_eq_none (by rw [length_toList]; omega)]
  rw [ByteArray.toList_eq, ByteArray.toList_eq] at e
  exact ByteArray.ext (Array.toList_inj.1 e)
theorem bt_mk (L : List UInt8) (k : Nat) : bt ⟨L.toArray⟩ k = ((L[k]?).map UInt8.toNat).getD 0 := by
  rw [bt_eq, ByteArray.toList_eq]
theorem frL_head (K L S : Int) (n : Nat) (l : Nat → Int) (i : Nat) (hi : i < 3) : ∀ k, (frL K L S n l k)[i]? = (frL K L S n l 0)[i]?
  | 0 => rfl
  | k + 1 => by
    have e : frL K L S n l (k + 1) = frL K L S n l k ++ four (l k) := rfl
    rw [e, List.getElem?_append_left (by rw [frL_length]; omega)]
    exact frL_head K L S n l i hi k
theorem frL_word (K L S : Int) (n : Nat) (l : Nat → Int) (j r : Nat) (hr : r < 4) : ∀ k, j < k → (frL K L S n l k)[3 + 4 * j + r]? = (four (l j))[r]?
  | 0, h => absurd h (by omega)
  | k + 1, h => by
    have e : frL K L S n l (k + 1) = frL K L S n l k ++ four (l k) := rfl
    rw [e]
    rcases Nat.lt_or_ge j k with g | g
    · rw [List.getElem?_append_left (by rw [frL_length]; omega)]
      exact frL_word K L S n l j r hr k g
    · obtain rfl : j = k := by omega
      rw [List.getElem?_append_right (by rw [frL_length]; omega), frL_length, Nat.add_sub_cancel_left]
theorem frT_0 (K L S : Int) (n : Nat) (l : Nat → Int) (h0 : 0 ≤ 16 * K + L) (h1 : 16 * K + L < 256) : (bt (frT K L S n l) 0 : Int) = 16 * K + L := by
  unfold frT
  rw [bt_mk, frL_head _ _ _ _ _ 0 (by omega)]
  show ((UInt8.ofNat (16 * K + L).toNat).toNat : Int) = _
  rw [UInt8.toNat_ofNat']
  omega
theorem frT_1 (K L S : Int) (n : Nat) (l : Nat → Int) (h0 : 0 ≤ S) (h1 : S < 256) : (bt (frT K L S n l) 1 : Int) = S := by
  unfold frT
  rw [bt_mk, frL_head _ _ _ _ _ 1 (by omega)]
  show ((UInt8.ofNat S.toNat).toNat : Int) = _
  rw [UInt8.toNat_ofNat']
  omega
theorem frT_2 (K L S : Int) (n : Nat) (l : Nat → Int) (h1 : n < 256) : bt (frT K L S n l) 2 = n := by
  unfold frT
  rw [bt_mk, frL_head _ _ _ _ _ 2 (by omega)]
  show (UInt8.ofNat n).toNat = _
  rw [UInt8.toNat_ofNat']
  omega
theorem frT_w (K L S : Int) (n : Nat) (l : Nat → Int) (j : Nat) (hj : j < n) : bt (frT K L S n l) (3 + 4 * j) = u32 (l j) / 16777216 ∧ bt (frT K L S n l) (3 + 4 * j + 1) = u32 (l j) / 65536 % 256 ∧ bt (frT K L S n l) (3 + 4 * j + 2) = u32 (l j) / 256 % 256 ∧ bt (frT K L S n l) (3 + 4 * j + 3) = u32 (l j) % 256 := by
  have h := u32_lt (l j)
  unfold frT
  refine ⟨?_, ?_, ?_, ?_⟩
  · have e := frL_word K L S n l j 0 (by omega) n hj
    rw [Nat.add_zero] at e
    rw [bt_mk, e]
    show (UInt8.ofNat (u32 (l j) / 16777216)).toNat = _
    rw [UInt8.toNat_ofNat']
    omega
  · rw [bt_mk, frL_word _ _ _ _ _ j 1 (by omega) n hj]
    show (UInt8.ofNat (u32 (l j) / 65536)).toNat = _
    rw [UInt8.toNat_ofNat']
  · rw [bt_mk, frL_word _ _ _ _ _ j 2 (by omega) n hj]
    show (UInt8.ofNat (u32 (l j) / 256)).toNat = _
    rw [UInt8.toNat_ofNat']
  · rw [bt_mk, frL_word _ _ _ _ _ j 3 (by omega) n hj]
    show (UInt8.ofNat (u32 (l j))).toNat = _
    rw [UInt8.toNat_ofNat']
theorem sg_u32 (x : Int) (h0 : -2147483648 ≤ x) (h1 : x ≤ 2147483647) : sg (u32 x / 16777216) (u32 x / 65536 % 256) (u32 x / 256 % 256) (u32 x % 256) = x := by
  have h := u32_lt x
  have e := u32_cast x
  generalize u32 x = u at *
  unfold sg
  split <;> omega
theorem u32_sg (b0 b1 b2 b3 : Nat) (h0 : b0 < 256) (h1 : b1 < 256) (h2 : b2 < 256) (h3 : b3 < 256) : u32 (sg b0 b1 b2 b3) = b0 * 16777216 + b1 * 65536 + b2 * 256 + b3 := by
  have e := u32_cast (sg b0 b1 b2 b3)
  generalize u32 (sg b0 b1 b2 b3) = u at *
  unfold sg at e
  split at e <;> omega

/-- a frame that was packed is read as it was -/
theorem read_packed (f : Fr) (h : pkE f = 0) (s0 : 0 ≤ f.S) (s1 : f.S < 256) (hl : In32 f.l) : rdE (pkT f) = 0 ∧ (rdF (pkT f)).K = f.K ∧ (rdF (pkT f)).L = f.L ∧ (rdF (pkT f)).S = f.S ∧ (rdF (pkT f)).n = f.n ∧ ∀ k, k < f.n → (rdF (pkT f)).l k = f.l k := by
  obtain ⟨K, L, S, n, l⟩ := f
  obtain ⟨⟨l0, l1, hk⟩, hn⟩ := frE_zero h
  simp only at s0 s1 hl l0 l1 hk hn ⊢
  have eT : pkT ⟨K, L, S, n, l⟩ = frT K L S n l ++ two (crcN (frT K L S n l)) := by unfold pkT; rw [if_pos h]
  rw [eT]
  have hz : (frT K L S n l ++ two (crcN (frT K L S n l))).size = (3 + 4 * n) + 2 := by rw [put_size, frT_size]
  have hc := put_crc (frT K L S n l)
  have hb : ∀ k, k < 3 + 4 * n → bt (frT K L S n l ++ two (crcN (frT K L S n l))) k = bt (frT K L S n l) k := fun k hk => bt_append_left _ _ _ (by rw [frT_size]; exact hk)
  have t0 := frT_0 K L S n l (by omega) (by omega)
  have t1 := frT_1 K L S n l s0 s1
  have t2 := frT_2 K L S n l (by omega)
  have tw := frT_w K L S n l
  generalize frT K L S n l ++ two (crcN (frT K L S n l)) = P at *
  rw [← hb 0 (by omega)] at t0
  rw [← hb 1 (by omega)] at t1
  rw [← hb 2 (by omega)] at t2
  have hE : rdE P = 0 := by
    rw [rdE_more hz (by omega) hc (by omega), t0, t2]
    have e1 : (16 * K + L) / 16 = K := by omega
    have e2 : (16 * K + L) % 16 = L := by omega
    rw [e1, e2]
    exact h
  rw [rdF_ok hE]
  refine ⟨hE, ?_, ?_, t1, t2, fun k hk2 => ?_⟩
  · show (bt P 0 : Int) / 16 = K
    omega
  · show (bt P 0 : Int) % 16 = L
    omega
  · show rdW P k = l k
    unfold rdW
    obtain ⟨w0, w1, w2, w3⟩ := tw k hk2
    rw [hb _ (by omega), hb _ (by omega), hb _ (by omega), hb _ (by omega), w0, w1, w2, w3]
    exact sg_u32 _ (hl k).1 (hl k).2

/-- what is read is packed as just those bytes -/
theorem pack_read (s : ByteArray) (h : rdE s = 0) : pkE (rdF s) = 0 ∧ pkT (rdF s) = s := by
  obtain ⟨n, g1, g2, g3, g4, g5⟩ := rdE_zero h
  rw [rdF_ok h]
  have hE : pkE ⟨(bt s 0 : Int) / 16, (bt s 0 : Int) % 16, bt s 1, bt s 2, rdW s⟩ = 0 := g5
  refine ⟨hE, ?_⟩
  have eT : pkT ⟨(bt s 0 : Int) / 16, (bt s 0 : Int) % 16, bt s 1, bt s 2, rdW s⟩ = frT ((bt s 0 : Int) / 16) ((bt s 0 : Int) % 16) (bt s 1) (bt s 2) (rdW s) ++ two (crcN (frT ((bt s 0 : Int) / 16) ((bt s 0 : Int) % 16) (bt s 1) (bt s 2) (rdW s))) := by unfold pkT; rw [if_pos hE]
  rw [eT]
  have hx : (s.extract 0 n).size = n := by rw [extract_size _ _ _ (by omega)]; rfl
  have c0 := bt_lt s 0
  have c1 := bt_lt s 1
  have c2 := bt_lt s 2
  have key : frT ((bt s 0 : Int) / 16) ((bt s 0 : Int) % 16) (bt s 1) (bt s 2) (rdW s) = s.extract 0 n := by
    have t0 := frT_0 ((bt s 0 : Int) / 16) ((bt s 0 : Int) % 16) (bt s 1) (bt s 2) (rdW s) (by omega) (by omega)
    have t1 := frT_1 ((bt s 0 : Int) / 16) ((bt s 0 : Int) % 16) (bt s 1) (bt s 2) (rdW s) (by omega) (by omega)
    have t2 := frT_2 ((bt s 0 : Int) / 16) ((bt s 0 : Int) % 16) (bt s 1) (bt s 2) (rdW s) (by omega)
    have tw := frT_w ((bt s 0 : Int) / 16) ((bt s 0 : Int) % 16) (bt s 1) (bt s 2) (rdW s)
    have tz := frT_size ((bt s 0 : Int) / 16) ((bt s 0 : Int) % 16) (bt s 1) (bt s 2) (rdW s)
    refine bt_ext (by rw [tz, hx]; omega) fun k hk => ?_
    rw [tz] at hk
    rw [bt_extract s n k (by omega)]
    generalize frT ((bt s 0 : Int) / 16) ((bt s 0 : Int) % 16) (bt s 1) (bt s 2) (rdW s) = T at *
    rcases Nat.lt_or_ge k 3 with hk3 | hk3
    · rcases (show k = 0 ∨ k = 1 ∨ k = 2 by omega) with rfl | rfl | rfl
      · omega
      · omega
      · omega
    · obtain ⟨j, r, hr, hj, rfl⟩ : ∃ j r, r < 4 ∧ j < bt s 2 ∧ k = 3 + 4 * j + r := ⟨(k - 3) / 4, (k - 3) % 4, by omega, by omega, by omega⟩
      obtain ⟨w0, w1, w2, w3⟩ := tw j hj
      have hu : u32 (rdW s j) = bt s (3 + 4 * j) * 16777216 + bt s (3 + 4 * j + 1) * 65536 + bt s (3 + 4 * j + 2) * 256 + bt s (3 + 4 * j + 3) := u32_sg _ _ _ _ (bt_lt _ _) (bt_lt _ _) (bt_lt _ _) (bt_lt _ _)
      rw [hu] at w0 w1 w2 w3
      have d0 := bt_lt s (3 + 4 * j)
      have d1 := bt_lt s (3 + 4 * j + 1)
      have d2 := bt_lt s (3 + 4 * j + 2)
      have d3 := bt_lt s (3 + 4 * j + 3)
      rcases (show r = 0 ∨ r = 1 ∨ r = 2 ∨ r = 3 by omega) with rfl | rfl | rfl | rfl
      · rw [Nat.add_zero, w0]; omega
      · rw [w1]; omega
      · rw [w2]; omega
      · rw [w3]; omega
  rw [key]
  have hr := right_iff s n g1
  rw [decide_eq_true g3, ← same_end s _ n g1, beq_iff_eq] at hr
  rw [ByteArray.toList_eq, ByteArray.toList_eq] at hr
  exact ByteArray.ext (Array.toList_inj.1 hr)
theorem rdF_S (s : ByteArray) : 0 ≤ (rdF s).S ∧ (rdF s).S < 256 ∧ (rdF s).n ≤ 8 := by
  by_cases h : rdE s = 0
  · obtain ⟨n, g1, g2, g3, g4, g5⟩ := rdE_zero h
    have h8 := (frE_zero g5).2
    have := bt_lt s 1
    rw [rdF_ok h]
    show (0 : Int) ≤ (bt s 1 : Int) ∧ (bt s 1 : Int) < 256 ∧ bt s 2 ≤ 8
    omega
  · rw [rdF_bad h]
    show (0 : Int) ≤ 0 ∧ (0 : Int) < 256 ∧ 0 ≤ 8
    omega

/-- one word of a frame that is known -/
def frOne : Fr := ⟨2, 3, 9, 1, fun _ => -1⟩
theorem one_E : pkE frOne = 0 := by decide
theorem one_T : pkT frOne = frT 2 3 9 1 (fun _ => -1) ++ two (crcN (frT 2 3 9 1 (fun _ => -1))) := by unfold pkT; rw [if_pos one_E]; rfl
theorem one_size : (pkT frOne).size = 9 := by rw [one_T, put_size, frT_size]
theorem one_head : (pkT frOne).extract 0 3 = ⟨#[35, 9, 1]⟩ := by
  have hx : ((pkT frOne).extract 0 3).size = 3 := by rw [extract_size _ _ _ (by rw [one_size]; omega)]
  refine bt_ext (by rw [hx]; rfl) fun k hk => ?_
  rw [hx] at hk
  rw [bt_extract _ _ _ hk, one_T, bt_append_left _ _ _ (by rw [frT_size]; omega)]
  rcases (show k = 0 ∨ k = 1 ∨ k = 2 by omega) with rfl | rfl | rfl
  · have := frT_0 2 3 9 1 (fun _ => -1) (by decide) (by decide)
    have e : bt (⟨#[35, 9, 1]⟩ : ByteArray) 0 = 35 := by decide
    rw [e]; omega
  · have := frT_1 2 3 9 1 (fun _ => -1) (by decide) (by decide)
    have e : bt (⟨#[35, 9, 1]⟩ : ByteArray) 1 = 9 := by decide
    rw [e]; omega
  · have := frT_2 2 3 9 1 (fun _ => -1) (by decide)
    have e : bt (⟨#[35, 9, 1]⟩ : ByteArray) 2 = 1 := by decide
    rw [e]; omega

end Go.Proofs.Ytiaolelkabbnmaa
