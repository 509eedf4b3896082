/-
  Whatever is handed in, the law CrcFew returns true: of what Put made, any two bits turned over are told by Get, and any odd number of them; none turned over is right. No condition.
-/
import Derived.Test.YtllhceopllpajaaCrcTell
import Derived.Test.YtllhceopllpajaaFlip
import Derived.Test.YtllhceopllpajaaFewMap
import Derived.Test.YtllhceopllpajaaOpenZ
import Derived.ProofKit
namespace Go.Proofs.Ytllhceopllpajaa.crcFew
open Go.ChangeShapes Go.WideShapes Go.ChangeAt Go.RowKit Go.Maps
set_option linter.unusedVariables false

theorem own : ownKnob Try.prog.godebug = none := by kernel_rfl
theorem laidOut : laidOutB Try.prog = true := by kernel_rfl


theorem law3 : Keyed Try.prog 3 := int_keyed Try.underlying3
theorem zero3 (w : World) : (zeroValue 3).run Try.prog w = .ok (.int .i64 0) w := by kernel_rfl
theorem sum_abc : crcN ⟨#[97, 98, 99]⟩ = 20810 := by kernel_rfl
theorem first_get (W : World) : Calls Try.prog 9 #[.string ⟨#[97, 98, 99]⟩] W fun e w' => e = .returned (.tuple #[.string ⟨#[]⟩, .int .i64 5]) ∧ Below W.heap.size W w' :=
  get_wrong ⟨#[97, 98, 99]⟩ W (by decide) (by decide) (by rw [sum_abc]; decide)
theorem grown_of {w w' : World} (h : Below w.heap.size w w') : w.grownBy w' none := ⟨h.os, h.tape, h.output, h.size, fun k hk _ => h.block k hk⟩
theorem Below.grew {N : Nat} {w0 w w' : World} {row : Option Nat} (h : Below N w0 w) (hg : w.grownBy w' row) (hN : N ≤ w.heap.size) (hr : ∀ j, row = some j → N ≤ j) : Below N w0 w' :=
  h.grown hg hN hr

set_option maxHeartbeats 1000000 in
set_option maxRecDepth 100000 in
theorem walk_large (s : ByteArray) (la : Option Addr) (ln lc : Nat) (w : World) (h_s : s.size ≤ 140737488351232) (h : 4093 < s.size) :
    Calls Try.prog 6 #[.string s, .slice la ln lc] w fun e w' => e = .returned (.bool true) ∧ Below w.heap.size w w' := by
  have HL : Hid (∀ W, Calls Try.prog 7 #[.string s] W fun e w' => e = .returned (.tuple #[.string ⟨#[]⟩, .int .i64 2]) ∧ w' = W) := fun W => put_large s W h_s h
  clear h h_s
  go_enter Try.func6, Try.ntmps6
  go_wp2_with fail
  refine (first_get _).mono ?_
  rintro e w1 ⟨rfl, hb⟩
  have B1 : Hid (Below w.heap.size w w1) := hb
  clear hb
  go_wp2_with fail
  refine (HL.out _).mono ?_
  rintro e w2 ⟨rfl, rfl⟩
  go_wp2_with fail
  go_ret
  exact ⟨rfl, B1.out⟩

/-- a text of n bytes whose bits were turned over c k times each -/
structure Fw (n : Nat) (c : Nat → Nat) (x : ByteArray) : Prop where
  size : x.size = n
  sum : crcN x = XN (8 * n) c (8 * n)
theorem Fw.flip {n : Nat} {c : Nat → Nat} {x : ByteArray} (h : Fw n c x) {k : Nat} (hk : k < 8 * n) : Fw n (more c k) (fl x k) :=
  ⟨by rw [fl_size]; exact h.size, by rw [fl_crc x k (by rw [h.size]; exact hk), h.sum, h.size, XN_more _ _ _ _ hk]⟩
theorem rest_nat (x : Int) (n : Nat) (h0 : 0 < n) (h : n ≤ 4095) : ∃ k : Nat, k < 8 * n ∧ ∀ W, Calls Try.prog 13 #[.int .i64 x, .int .i64 (8 * (n : Int))] W fun e w' => e = .returned (.int .i64 k) ∧ w' = W := by
  have h1 := Int.emod_nonneg x (show 8 * (n : Int) ≠ 0 by omega)
  have h2 := Int.emod_lt_of_pos x (show 0 < 8 * (n : Int) by omega)
  refine ⟨(x % (8 * (n : Int))).toNat, by omega, fun W => ?_⟩
  have := rrest_any x (8 * (n : Int)) (by omega) (by omega) W
  rw [Int.toNat_of_nonneg h1]
  exact this
/-- what Get tells of it -/
theorem told {n : Nat} {c : Nat → Nat} {x : ByteArray} (h : Fw n c x) (h2 : 2 ≤ n) (h4 : n ≤ 4095) : ∃ (back : ByteArray) (f : Int), (∀ W, Calls Try.prog 9 #[.string x] W fun e w' => e = .returned (.tuple #[.string back, .int .i64 f]) ∧ Below W.heap.size W w') ∧ (ON c (8 * n) = 0 → f = 0) ∧ (ON c (8 * n) = 2 → f = 5) ∧ (ON c (8 * n) % 2 = 1 → f = 5) := by
  obtain ⟨t0, t2, t1⟩ := few_told (8 * n) c (by omega)
  by_cases hx : XN (8 * n) c (8 * n) = 0
  · exact ⟨_, 0, fun W => get_right x (n - 2) W (by rw [h.size]; omega) (by rw [h.size]; exact h4) (h.sum.trans hx), fun _ => rfl, fun q => absurd hx (t2 q), fun q => absurd hx (t1 q)⟩
  · exact ⟨_, 5, fun W => get_wrong x W (by rw [h.size]; exact h2) (by rw [h.size]; exact h4) (by rw [h.sum]; exact hx), fun q => absurd (t0 q) hx, fun _ => rfl, fun _ => rfl⟩
theorem at_eq {N j : Nat} {c : Nat → Nat} {D : DataW Unit} (h : Mp N j c D) {k : Nat} (hk : k < N) {v : Int} (e : D.atKey (.int .i64 (k : Int)) (.lit (.int .i64 0)) = .lit (.int .i64 v)) : v = (c k : Int) := by
  rw [h.at_ k hk] at e
  injection e with e
  injection e with _ e
  exact e.symm

set_option maxHeartbeats 8000000 in
set_option maxRecDepth 100000 in
theorem walk_ok (s : ByteArray) (la : Option Addr) (ln lc : Nat) (l : Nat → Int) (w : World) (h : s.size ≤ 4093) (hln : ln ≤ 17592186043904) (hl : 0 < ln → ∃ b off, la = some ⟨b, off, none⟩ ∧ b < w.heap.size ∧ ∀ j : Nat, j < ln → w.cell? ⟨b, off + j, none⟩ = some (.int .i64 (l j))) :
    Calls Try.prog 6 #[.string s, .slice la ln lc] w fun e w' => e = .returned (.bool true) ∧ Below w.heap.size w w' := by
  have HL : Hid (∀ W, Calls Try.prog 7 #[.string s] W fun e w' => e = .returned (.tuple #[.string (s ++ two (crcN s)), .int .i64 0]) ∧ Below W.heap.size W w') := fun W => put_ok s W h
  have hu := put_size s
  have HU : Hid (_) := put_crc s
  generalize s ++ two (crcN s) = u at HL hu HU
  obtain ⟨n, hn⟩ : ∃ n, u.size = n := ⟨_, rfl⟩
  have HN : Hid (2 ≤ n ∧ n ≤ 4095) := by constructor <;> omega
  have S0 : Hid (Fw n (fun _ => 0) u) := ⟨hn, by rw [HU.out, XN_none]⟩
  have HW : Hid (_) := hl
  have hn' : (u.size : Int) = (n : Int) := by omega
  have hn3' : (n : Int) ≤ 4095 := by omega
  clear hu hn h hl
  have hmm := @run_makeMap Try.prog
  go_enter Try.func6, Try.ntmps6
  go_wp2_with fail
  refine (first_get _).mono ?_
  rintro e w1 ⟨rfl, hb⟩
  have B1 : Hid (Below w.heap.size w w1) := hb
  clear hb
  go_wp2_with fail
  refine (HL.out _).mono ?_
  rintro e w2 ⟨rfl, hb⟩
  have B2 : Hid (Below w.heap.size w w2) := B1.out.trans (hb.mono B1.out.size)
  clear hb B1 HL
  go_wp2_with fail
  have B3 : Hid (Below w.heap.size w (w2.alloc (.map #[] 0))) := B2.out.alloc B2.out.size _
  have L2 : Hid (w.heap.size ≤ w2.heap.size) := B2.out.size
  clear hmm B2
  go_loopg [10, 36] (ln + 1) (fun g v q wr => ∃ (j : Nat) (x : ByteArray) (c : Nat → Nat) (D : DataW Unit), v = .string x ∧ q = .int .i64 j ∧ ln - j < g ∧ j ≤ ln ∧ Hid (Fw n c x) ∧ Hid (Mp (8 * n) j c D) ∧ Hid (wr.ownsMap Try.prog 3 (plainElem Try.prog 3) w2.heap.size j D) ∧ Hid (Below w.heap.size w wr))
  case atStart => exact ⟨0, u, fun _ => 0, .map [], rfl, rfl, by omega, by omega, S0.out, Mp.none _, World.ownsMap_made _ _ _ _, B3.out⟩
  case round =>
    obtain ⟨j, x, c, D, rfl, rfl, hg, hj, FJ, MJ, OJ, BJ⟩ := hrel
    clear B3 S0
    by_cases hlt : j < ln
    · have z1 : (j : Int) < (ln : Int) := by omega
      obtain ⟨b, off, rfl, hb, hc⟩ := HW.out (by omega)
      have c0 : wr.cell? ⟨b, off + j, none⟩ = some (.int .i64 (l j)) := (BJ.out.cell (p := ⟨b, off + j, none⟩) hb).trans (hc j hlt)
      have hbw : b < wr.heap.size := Nat.lt_of_lt_of_le hb BJ.out.size
      clear hb hc
      obtain ⟨k, hk, hr⟩ := rest_nat (l j) n (by have := HN.out; omega) HN.out.2
      have HR : Hid (_) := hr
      have HK : Hid (k < 8 * n) := hk
      have HF : Hid (∀ W, Calls Try.prog 14 #[.string x, .int .i64 k] W fun e w' => e = .returned (.string (fl x k)) ∧ Below W.heap.size W w') := fun W => flipped_any x k W (by rw [FJ.out.size]; exact HN.out.2) (by rw [FJ.out.size]; exact hk)
      have FJ2 : Hid (_) := FJ.out.flip hk
      have MJ2 : Hid (_) := MJ.out.put OJ.out.isMap k hk
      have hkey : keyOf Try.prog 3 (.int .i64 (k : Int)) = some (.int .i64 (k : Int)) := keyOf_int_mk Try.underlying3 (WalkArith.wf_i64 (by have := HN.out; omega))
      have HKey : Hid (_) := hkey
      have hck : (c k : Int) ≤ 17592186043904 := by have := MJ.out.le k; omega
      have hjm : Hid (j < maxLen) := by show j < maxLen; unfold maxLen; omega
      have hwf : Hid ((Lit.int .i64 ((c k : Int) + 1)).wf = true) := WalkArith.wf_i64 (by omega)
      generalize fl x k = y at HF FJ2
      clear hr hk hkey
      go_wp2_with fail
      refine (HR.out _).mono ?_
      rintro e w3 ⟨rfl, rfl⟩
      go_wp2_with fail
      refine (HF.out _).mono ?_
      rintro e w4 ⟨rfl, hb⟩
      have OJ2 : Hid (w4.ownsMap Try.prog 3 (plainElem Try.prog 3) w2.heap.size j D) := OJ.out.kept (grown_of hb) (by simp)
      have B4 : Hid (Below w.heap.size w w4) := BJ.out.trans (hb.mono BJ.out.size)
      clear hb OJ BJ c0 hbw HR HF
      go_wp2_with (first
        | (at_lookup; refine wpList_lookup_own_int _ rfl _ _ 34 rfl 3 3 .i64 law3 Try.underlying34 Try.underlying3 (zero3 _) w2.heap.size j _ rfl OJ2.out _ _ rfl HKey.out ?_; intro cv hat hwc; obtain rfl := at_eq MJ.out HK.out hat; clear hat hwc)
        | (at_mapUpdate; refine wpList_mapUpdate_own _ rfl _ _ _ 34 rfl 3 3 law3 Try.underlying34 _ w2.heap.size j _ rfl OJ2.out hjm.out _ _ _ rfl rfl HKey.out _ [] (plainElem_int Try.underlying3 hwf.out) ?_; intro w5 hown1 hgrow1)
        | go_in)
      have O5 : Hid (_) := hown1
      have B5 : Hid (Below w.heap.size w w5) := B4.out.grown hgrow1 B4.out.size (fun j hj => by cases hj; exact L2.out)
      clear hown1 hgrow1
      go_roundg (ln - (j + 1) + 1)
      case measure => omega
      case rel => exact ⟨j + 1, y, more c k, _, rfl, by go_num, by omega, by omega, FJ2.out, MJ2.out, O5.out, B5.out⟩
    · have z1 : ¬ (j : Int) < (ln : Int) := by omega
      obtain rfl : j = ln := by omega
      clear hlt hj hg HW
      obtain ⟨back, f, hg1, f0, f2, f1⟩ := told FJ.out HN.out.1 HN.out.2
      have HG : Hid (_) := hg1
      have HF : Hid ((ON c (8 * n) = 0 → f = 0) ∧ (ON c (8 * n) = 2 → f = 5) ∧ (ON c (8 * n) % 2 = 1 → f = 5)) := ⟨f0, f2, f1⟩
      clear hg1 f0 f2 f1
      have LR : Hid (w.heap.size ≤ wr.heap.size) := BJ.out.size
      go_wp2_with (first
        | (at_range; refine wpList_range_own _ rfl _ 34 rfl 3 3 law3 Try.underlying34 _ w2.heap.size j _ rfl OJ.out ?_; intro w3 hrg0 hg0 hs0)
        | go_in)
      try go_frame
      have R3 : Hid (_) := hrg0
      have B3 : Hid (Below w.heap.size w w3) := BJ.out.grown hg0 BJ.out.size (fun q hq => by cases hq)
      clear hrg0 hg0 hs0 OJ BJ
      go_loopg [14] (Maps.size D + 1) (fun g t wx => ∃ (left : Lit → Bool) (cnt : Nat), t = .int .i64 (vs D left c (8 * n) : Nat) ∧ cnt < g ∧ Hid (wx.ranges Try.prog 3 (plainElem Try.prog 3) w2.heap.size wr.heap.size j D left cnt) ∧ Hid (Below w.heap.size w wx))
      case atStart => exact ⟨_, _, by rw [vs_start]; rfl, by omega, R3.out, B3.out⟩
      case round =>
        obtain ⟨left, cnt, rfl, hcnt, RX, BX⟩ := hrel
        clear R3 B3
        have hvs : (vs D left c (8 * n) : Int) ≤ 32760 := by have := vs_le D left c (8 * n); have := HN.out; omega
        go_wp2_with (first
          | (at_next; refine wpList_next_ranges_ii _ rfl _ rfl 3 3 .i64 .i64 law3 Try.underlying3 Try.underlying3 w2.heap.size _ j _ _ _ rfl RX.out ?_ ?_)
          | go_in)
        · intro _ hl0
          have e := vs_end MJ.out left hl0 (8 * n) (Nat.le_refl _)
          rw [e] at hvs ⊢
          clear e hl0 RX hcnt
          generalize ON c (8 * n) = O at HF hvs ⊢
          have cases4 : (O = 0 ∧ f = 0) ∨ (O = 2 ∧ f = 5) ∨ (O % 2 = 1 ∧ f = 5) ∨ (O ≠ 0 ∧ O ≠ 2 ∧ O % 2 = 0) := by
            obtain ⟨h0, h2, h1⟩ := HF.out
            by_cases e0 : O = 0
            · exact Or.inl ⟨e0, h0 e0⟩
            by_cases e2 : O = 2
            · exact Or.inr (Or.inl ⟨e2, h2 e2⟩)
            by_cases e1 : O % 2 = 1
            · exact Or.inr (Or.inr (Or.inl ⟨e1, h1 e1⟩))
            · exact Or.inr (Or.inr (Or.inr ⟨e0, e2, by omega⟩))
          clear HF
          rcases cases4 with ⟨rfl, rfl⟩ | ⟨rfl, rfl⟩ | ⟨e1, rfl⟩ | ⟨e0, e2, e1⟩
          · go_wp2_with fail
            refine (HG.out _).mono ?_
            rintro r w5 ⟨rfl, hb⟩
            have B5 : Hid (Below w.heap.size w w5) := BX.out.trans (hb.mono BX.out.size)
            clear hb
            go_wp2_with fail
            go_ret
            exact ⟨rfl, B5.out⟩
          · go_wp2_with fail
            refine (HG.out _).mono ?_
            rintro r w5 ⟨rfl, hb⟩
            have B5 : Hid (Below w.heap.size w w5) := BX.out.trans (hb.mono BX.out.size)
            clear hb
            go_wp2_with fail
            go_ret
            exact ⟨rfl, B5.out⟩
          · go_wp2_with fail
            refine (HG.out _).mono ?_
            rintro r w5 ⟨rfl, hb⟩
            have B5 : Hid (Below w.heap.size w w5) := BX.out.trans (hb.mono BX.out.size)
            clear hb
            have o1 : ((O : Int) == 0) = false := by simp; omega
            have o2 : (O : Int) % 2 = 1 := by omega
            go_wp2_with fail
            go_ret
            exact ⟨rfl, B5.out⟩
          · go_wp2_with fail
            refine (HG.out _).mono ?_
            rintro r w5 ⟨rfl, hb⟩
            have B5 : Hid (Below w.heap.size w w5) := BX.out.trans (hb.mono BX.out.size)
            clear hb
            have o1 : ((O : Int) == 0) = false := by simp; omega
            have o2 : ((O : Int) == 2) = false := by simp; omega
            have o3 : (O : Int) % 2 = 0 := by omega
            go_wp2_with fail
            go_ret
            exact ⟨rfl, B5.out⟩
        · intro x1 c1 w4 cnt1 hwx hwc hlx hat hrg1 hlt hg1 hs1 hen
          have hh := has_true_of_atKey hat
          obtain ⟨a, ha, e⟩ := MJ.out.keys _ hh
          obtain rfl : x1 = (a : Int) := by injection e
          obtain rfl := at_eq MJ.out ha (hat _)
          have e2 : Hid (_) := vs_step D left c a (8 * n) ha hlx hh
          have B4 : Hid (Below w.heap.size w w4) := BX.out.grown hg1 BX.out.size (fun q hq => by cases hq; exact LR.out)
          have R4 : Hid (_) := hrg1
          clear hwx hwc hlx hat hrg1 hg1 hs1 hh e
          go_wp2_with fail
          go_roundg (cnt1 + 1)
          case measure => omega
          case rel => exact ⟨fun z => left z && !z.sameKey (.int .i64 (a : Int)), cnt1, by rw [e2.out]; simp, by omega, R4.out, B4.out⟩

theorem walk (s : ByteArray) (la : Option Addr) (ln lc : Nat) (l : Nat → Int) (w : World) (h_s : s.size ≤ 140737488351232) (h_l : RowZ .i64 8 w la ln lc l) :
    Calls Try.prog 6 #[.string s, .slice la ln lc] w fun e w' => e = .returned (.bool true) ∧ Below w.heap.size w w' := by
  rcases Nat.lt_or_ge 4093 s.size with h | h
  · exact walk_large s la ln lc w h_s h
  · obtain ⟨⟨h1, h2, h3, h4⟩, h5, h6⟩ := h_l
    exact walk_ok s la ln lc l w h (by omega) h4

/-! ### THE ROW's STEP -/
set_option maxRecDepth 100000 in
theorem lifted (os : Os) (started : os.Started) (H : Type) (enc : TypeId × Value → H) :
    ReturnsInHanded {} Try.checked os 6 .any (Rows.crcFewSpec.pre6 enc Try.prog Try.f6 Rows.crcFewRow.domain false) (Rows.crcFewSpec.post enc Try.prog Try.f6 false true false false) := by
  refine returnsInHanded_of_change_sized (C := Try.checked) own started (by kernel_rfl) Try.func6
    (ChangeSpec.witness6 (enc := enc) (C := Try.checked) false ⟨#[], #[.string ByteArray.empty, .slice none 0 0], []⟩ 8 (by kernel_rfl) (by kernel_rfl) (by kernel_rfl) (by kernel_rfl)) ?_
  intro W base args ds gs before hval0 hW hcnd hsz0 _
  have hval : ∀ (j : Nat) t v, Try.f6.params[j]? = some t → args[j]? = some v → Value.okWide Try.prog W .any base t v := hval0
  have hW' := hW
  obtain ⟨p, q, hA0, hV, rfl, hfz, hnd⟩ := hW
  have hA : DataW.TrodAll enc Try.prog W 0 (fun _ => true) true Try.f6.params.toList args.toList ds p := hA0
  rw [Try.params6] at hA hval
  obtain ⟨v0, vs0, d0, ds0, p0, q0, hargs, rfl, rfl, h0, r0⟩ := trodAll_cons hA
  obtain ⟨v1, vs1, d1, ds1, p1, q1, rfl, rfl, rfl, h1, r1⟩ := trodAll_cons r0
  obtain ⟨rfl, rfl, rfl⟩ := trodAll_nil r1
  obtain rfl : args = #[v0, v1] := by cases args; simp_all
  obtain ⟨rfl, rfl⟩ := trodVars_none hV
  have hz0 : Light Try.prog 9 d0 := light_of hsz0 (j := 0) (by first | rfl | (rw [Try.params6]; rfl)) rfl
  have k0 := h0
  have lt0 : ∀ x ∈ p0, x.block < W.heap.size := by obtain ⟨m, hm⟩ := k0; exact DataW.trod_lt m _ _ _ hm
  obtain ⟨s, rfl, rfl, rfl, h_s⟩ := Go.ChangeMaps.open_string Try.underlying9 (hval 0 9 v0 rfl rfl) h0
  replace h_s : s.size ≤ 140737488351232 := light_string hz0
  have hz1 : Light Try.prog 33 d1 := light_of hsz0 (j := 1) (by first | rfl | (rw [Try.params6]; rfl)) rfl
  have k1 := h1
  have lt1 : ∀ x ∈ p1, x.block < W.heap.size := by obtain ⟨m, hm⟩ := k1; exact DataW.trod_lt m _ _ _ hm
  obtain ⟨la, ln, lc, rfl⟩ := okWide_slice Try.underlying33 (hval 1 33 v1 rfl rfl)
  obtain ⟨l, h_l⟩ : ∃ l, RowZ .i64 8 W la ln lc l := by
    obtain ⟨fuel, hf⟩ := h1
    obtain ⟨a, m, c, l, hcs, hr⟩ := rowZ_of Try.underlying33 Try.underlying3 (by kernel_rfl) (by kernel_rfl) hf hz1
    simp [Value.cells] at hcs
    obtain ⟨rfl, rfl, rfl⟩ := hcs
    exact ⟨l, hr⟩
  clear hA0 hval0
  refine (walk s la ln lc l W h_s h_l).mono fun e W' ⟨he, bel⟩ => ?_
  subst he
  exact ⟨_, rfl, _, _, _, [], _, [], hW', trodAll_mk1 (shut_bool Try.underlying4 _), (trodAll_cons_mk (Below.trod laidOut (by kernel_rfl) (of_decide_eq_true (by kernel_rfl)) k0 bel lt0) (trodAll_cons_mk (Below.trod laidOut (by kernel_rfl) (of_decide_eq_true (by kernel_rfl)) k1 bel lt1) trodAll_mk0)), rfl, bel.frame _, fun h => by cases h⟩

theorem over : Rows.crcFewRow.holds Try.pinned (OpenSpec.ofChange Rows.crcFewSpec) :=
  OpenClaim.holds_of_wide 6 Try.f6 rfl rfl rfl rfl rfl rfl rfl ⟨rfl, rfl, rfl, rfl, rfl⟩ rfl rfl rfl rfl rfl (by kernel_rfl) Try.func6 (by kernel_rfl)
    (of_decide_eq_true (by kernel_rfl)) (by unfold Func.isWrapper; first | (rw [if_pos (by decide +kernel)]; kernel_rfl) | (rw [if_neg (by decide +kernel)]; exact ⟨rfl, rfl⟩))
    (fun os started H enc _ => lifted os started H enc)


end Go.Proofs.Ytllhceopllpajaa.crcFew
namespace Go.Proofs.Ytllhceopllpajaa
/-- THE STATEMENT -/
theorem crcFew_holds : Rows.CrcFewSaid := crcFew.over
#print axioms crcFew_holds
end Go.Proofs.Ytllhceopllpajaa
