/-
  Whatever is handed in, the law CrcBursts returns true: whatever is turned over within sixteen bits that follow one another, in what Put made, is told by Get; what is not turned over is given back. No condition.
-/
import Derived.Test.YtllhceopllpajaaCrcTell
import Derived.Test.YtllhceopllpajaaFlip
import Derived.Test.YtllhceopllpajaaOpenZ
import Derived.ProofKit
namespace Go.Proofs.Ytllhceopllpajaa.crcBursts
open Go.ChangeShapes Go.WideShapes Go.ChangeAt Go.RowKit
set_option linter.unusedVariables false

theorem own : ownKnob Try.prog.godebug = none := by kernel_rfl
theorem laidOut : laidOutB Try.prog = true := by kernel_rfl


theorem first_put : ∃ t : ByteArray, t.size = 3 ∧ ∀ W, Calls Try.prog 7 #[.string ⟨#[97]⟩] W fun e w' => e = .returned (.tuple #[.string t, .int .i64 0]) ∧ Below W.heap.size W w' :=
  ⟨_, put_size _, fun W => put_ok ⟨#[97]⟩ W (by decide)⟩
theorem bit_of (b j : Nat) (hb : b < 65536) : bits .and .u16 ((b : Int) / 2 ^ j) 1 = if b.testBit j then 1 else 0 := by
  have hlt : b / 2 ^ j < 65536 := Nat.lt_of_le_of_lt (Nat.div_le_self _ _) hb
  have h := u16_and_nat (b / 2 ^ j) 1 hlt (by decide)
  have e : (((b / 2 ^ j : Nat)) : Int) = (b : Int) / 2 ^ j := by simp
  rw [e] at h
  rw [show (1 : Int) = ((1 : Nat) : Int) from rfl, h, Nat.and_one_is_mod, Nat.testBit_eq_decide_div_mod_eq]
  rcases Nat.mod_two_eq_zero_or_one (b / 2 ^ j) with q | q <;> rw [q] <;> rfl

set_option maxHeartbeats 1000000 in
set_option maxRecDepth 100000 in
theorem walk_large (s : ByteArray) (a b : Int) (w : World) (h_s : s.size ≤ 140737488351232) (h : 4093 < s.size) :
    Calls Try.prog 5 #[.string s, .int .i64 a, .int .u16 b] w fun e w' => e = .returned (.bool true) ∧ Below w.heap.size w w' := by
  obtain ⟨t, ht, hp⟩ := first_put
  have HP : Hid (_) := hp
  have HL : Hid (∀ W, Calls Try.prog 7 #[.string s] W fun e w' => e = .returned (.tuple #[.string ⟨#[]⟩, .int .i64 2]) ∧ w' = W) := fun W => put_large s W h_s h
  clear hp h h_s
  go_enter Try.func5, Try.ntmps5
  go_wp2_with fail
  refine (HP.out _).mono ?_
  rintro e w1 ⟨rfl, hb⟩
  have B1 : Hid (Below w.heap.size w w1) := hb
  clear hb
  go_wp2_with fail
  refine (HL.out _).mono ?_
  rintro e w2 ⟨rfl, rfl⟩
  go_wp2_with fail
  go_ret
  exact ⟨rfl, B1.out⟩

set_option maxHeartbeats 1000000 in
set_option maxRecDepth 100000 in
theorem walk_none (s : ByteArray) (a : Int) (w : World) (h : s.size ≤ 4093) :
    Calls Try.prog 5 #[.string s, .int .i64 a, .int .u16 0] w fun e w' => e = .returned (.bool true) ∧ Below w.heap.size w w' := by
  obtain ⟨t, ht, hp⟩ := first_put
  have HP : Hid (_) := hp
  have HL : Hid (∀ W, Calls Try.prog 7 #[.string s] W fun e w' => e = .returned (.tuple #[.string (s ++ two (crcN s)), .int .i64 0]) ∧ Below W.heap.size W w') := fun W => put_ok s W h
  have hu := put_size s
  generalize s ++ two (crcN s) = u at HL hu
  have h' : (s.size : Int) ≤ 4093 := by omega
  clear hp h
  go_enter Try.func5, Try.ntmps5
  go_wp2_with fail
  refine (HP.out _).mono ?_
  rintro e w1 ⟨rfl, hb⟩
  have B1 : Hid (Below w.heap.size w w1) := hb
  clear hb
  go_wp2_with fail
  refine (HL.out _).mono ?_
  rintro e w2 ⟨rfl, hb⟩
  have B2 : Hid (Below w.heap.size w w2) := B1.out.trans (hb.mono B1.out.size)
  clear hb
  go_wp2_with fail
  go_ret
  exact ⟨rfl, B2.out⟩

/-- how far the burst is -/
structure Br (N n k b : Nat) (j : Nat) (u : ByteArray) : Prop where
  size : u.size = n
  sum : crcN u = stN (N - k) (rev b j)
theorem Br.no {N n k b j : Nat} {u : ByteArray} (h : Br N n k b j u) (hb : b.testBit j = false) : Br N n k b (j + 1) u :=
  ⟨h.size, by rw [h.sum]; simp only [rev]; rw [hb]; rfl⟩
theorem Br.yes {N n k b j : Nat} {u : ByteArray} (h : Br N n k b j u) (hN : N = 8 * n) (hk : k + 15 < N) (hj : j < 16) (hb : b.testBit j = true) : Br N n k b (j + 1) (fl u (k + j)) := by
  refine ⟨by rw [fl_size]; exact h.size, ?_⟩
  rw [fl_crc u (k + j) (by rw [h.size]; omega), h.sum, h.size, ← hN, T_burst N k j hj (by omega), ← stN_xor]
  simp only [rev]
  rw [hb]
  rfl

set_option maxHeartbeats 4000000 in
set_option maxRecDepth 100000 in
theorem walk_burst (s : ByteArray) (a : Int) (b : Nat) (w : World) (h : s.size ≤ 4093) (hb0 : b ≠ 0) (hb1 : b < 65536) :
    Calls Try.prog 5 #[.string s, .int .i64 a, .int .u16 b] w fun e w' => e = .returned (.bool true) ∧ Below w.heap.size w w' := by
  obtain ⟨t, ht, hp⟩ := first_put
  have HP : Hid (_) := hp
  have HL : Hid (∀ W, Calls Try.prog 7 #[.string s] W fun e w' => e = .returned (.tuple #[.string (s ++ two (crcN s)), .int .i64 0]) ∧ Below W.heap.size W w') := fun W => put_ok s W h
  have hu := put_size s
  have HU : Hid (_) := put_crc s
  have HK : Hid (_) := put_back s
  generalize s ++ two (crcN s) = u at HL hu HU HK
  obtain ⟨n, hn⟩ : ∃ n, u.size = n := ⟨_, rfl⟩
  have hn2 : n = s.size + 2 := by omega
  have hn3 : n ≤ 4095 := by omega
  obtain ⟨k, hk, hk2⟩ : ∃ k : Nat, a % (8 * (n : Int) - 15) = (k : Int) ∧ k + 15 < 8 * n := by
    have h1 := Int.emod_nonneg a (show 8 * (n : Int) - 15 ≠ 0 by omega)
    have h2 := Int.emod_lt_of_pos a (show 0 < 8 * (n : Int) - 15 by omega)
    exact ⟨(a % (8 * (n : Int) - 15)).toNat, by omega, by omega⟩
  have HR : Hid (∀ W, Calls Try.prog 13 #[.int .i64 a, .int .i64 (8 * (n : Int) - 15)] W fun e w' => e = .returned (.int .i64 k) ∧ w' = W) := fun W => by
    have := rrest_any a (8 * (n : Int) - 15) (by omega) (by omega) W
    rw [hk] at this
    exact this
  have S0 : Hid (Br (8 * n) n k b 0 u) := ⟨hn, by rw [HU.out]; exact (stN_zero _).symm⟩
  have HB0 : Hid (b ≠ 0) := hb0
  have HB1 : Hid (b < 65536) := hb1
  have HN : Hid (u.size = s.size + 2 ∧ n ≤ 4095 ∧ k + 15 < 8 * n ∧ n = s.size + 2) := ⟨hu, hn3, hk2, hn2⟩
  have hn' : (u.size : Int) = (n : Int) := by omega
  have hn3' : (n : Int) ≤ 4095 := by omega
  have hn2' : 2 ≤ (n : Int) := by omega
  have hb' : ¬ (b : Int) = 0 := by omega
  clear hp h hk hk2 hn hu hn2 hn3 hb0 hb1
  go_enter Try.func5, Try.ntmps5
  go_wp2_with fail
  refine (HP.out _).mono ?_
  rintro e w1 ⟨rfl, hb⟩
  have B1 : Hid (Below w.heap.size w w1) := hb
  clear hb
  go_wp2_with fail
  refine (HL.out _).mono ?_
  rintro e w2 ⟨rfl, hb⟩
  have B2 : Hid (Below w.heap.size w w2) := B1.out.trans (hb.mono B1.out.size)
  clear hb
  go_wp2_with fail
  refine (HR.out _).mono ?_
  rintro e w3 ⟨rfl, rfl⟩
  go_wp2_with fail
  clear hn' hb' HP HL HR ht
  go_loopg [12, 57] 17 (fun g v q wr => ∃ (j : Nat) (x : ByteArray), v = .string x ∧ q = .int .i64 j ∧ 16 - j < g ∧ j ≤ 16 ∧ Hid (Br (8 * n) n k b j x) ∧ Hid (Below w.heap.size w wr))
  case atStart => exact ⟨0, u, rfl, rfl, by omega, by omega, S0.out, B2.out⟩
  case round =>
    obtain ⟨j, x, rfl, rfl, hg, hj, SJ, BJ⟩ := hrel
    clear B1 B2 S0
    by_cases hlt : j < 16
    · have z1 : (j : Int) < 16 := by omega
      have hbit := bit_of b j HB1.out
      have hkj : (k : Int) + (j : Int) = ((k + j : Nat) : Int) := by omega
      have hkj2 : ((k + j : Nat) : Int) ≤ 40000 := by have := HN.out; omega
      cases hbj : b.testBit j
      · rw [hbj] at hbit
        have SJ2 : Hid (_) := SJ.out.no hbj
        clear hkj hkj2 hbj
        simp only [Bool.false_eq_true, if_false] at hbit
        go_wp2_with fail
        go_roundg (16 - (j + 1) + 1)
        case measure => omega
        case rel => exact ⟨j + 1, x, rfl, by go_num, by omega, by omega, SJ2.out, BJ.out⟩
      · rw [hbj] at hbit
        have SJ2 : Hid (_) := SJ.out.yes rfl HN.out.2.2.1 hlt hbj
        have FC : Hid (∀ W, Calls Try.prog 14 #[.string x, .int .i64 ((k : Int) + (j : Int))] W fun e w' => e = .returned (.string (fl x (k + j))) ∧ Below W.heap.size W w') := fun W => by
          rw [hkj]
          exact flipped_any x (k + j) W (by rw [SJ.out.size]; exact HN.out.2.1) (by rw [SJ.out.size]; have := HN.out; omega)
        generalize fl x (k + j) = y at FC SJ2
        have hkj3 : (k : Int) + (j : Int) ≤ 40000 := by omega
        clear hkj hkj2 hbj
        simp only [if_true] at hbit
        go_wp2_with fail
        refine (FC.out _).mono ?_
        rintro e w4 ⟨rfl, hb⟩
        have B4 : Hid (Below w.heap.size w w4) := BJ.out.trans (hb.mono BJ.out.size)
        clear hb BJ FC
        go_wp2_with fail
        go_roundg (16 - (j + 1) + 1)
        case measure => omega
        case rel => exact ⟨j + 1, y, rfl, by go_num, by omega, by omega, SJ2.out, B4.out⟩
    · have z1 : ¬ (j : Int) < 16 := by omega
      obtain rfl : j = 16 := by omega
      have hne : crcN x ≠ 0 := fun e => HB0.out (rev_null b HB1.out (stN_null _ _ (rev_lt b 16) (SJ.out.sum.symm.trans e)))
      have G1 : Hid (∀ W, Calls Try.prog 9 #[.string x] W fun e w' => e = .returned (.tuple #[.string ⟨#[]⟩, .int .i64 5]) ∧ Below W.heap.size W w') := fun W => get_wrong x W (by rw [SJ.out.size]; have := HN.out; omega) (by rw [SJ.out.size]; exact HN.out.2.1) hne
      have G2 : Hid (∀ W, Calls Try.prog 9 #[.string u] W fun e w' => e = .returned (.tuple #[.string (u.extract 0 s.size), .int .i64 0]) ∧ Below W.heap.size W w') := fun W => get_right u s.size W HN.out.1 (by rw [HN.out.1]; have := HN.out; omega) HU.out
      have e1 : ((u.extract 0 s.size).toList == s.toList) = true := by rw [HK.out]; exact beq_self_eq_true _
      clear hne
      generalize u.extract 0 s.size = back at G2 e1
      go_wp2_with fail
      refine (G1.out _).mono ?_
      rintro e w4 ⟨rfl, hb⟩
      have B4 : Hid (Below w.heap.size w w4) := BJ.out.trans (hb.mono BJ.out.size)
      clear hb BJ
      go_wp2_with fail
      refine (G2.out _).mono ?_
      rintro e w5 ⟨rfl, hb⟩
      have B5 : Hid (Below w.heap.size w w5) := B4.out.trans (hb.mono B4.out.size)
      clear hb
      go_wp2_with fail
      go_ret
      exact ⟨rfl, B5.out⟩

theorem walk (s : ByteArray) (atv : Int) (byv : Int) (w : World) (h_s : s.size ≤ 140737488351232) (h_atv : (Lit.int .i64 atv).wf = true) (h_byv : (Lit.int .u16 byv).wf = true) :
    Calls Try.prog 5 #[.string s, .int .i64 atv, .int .u16 byv] w fun e w' => e = .returned (.bool true) ∧ Below w.heap.size w w' := by
  rcases Nat.lt_or_ge 4093 s.size with h | h
  · exact walk_large s atv byv w h_s h
  · have hw : 0 ≤ byv ∧ byv < 65536 := by
      have := h_byv
      simp [Lit.wf, IntKind.min, IntKind.max, IntKind.bits, IntKind.signed] at this
      omega
    obtain ⟨b, rfl⟩ : ∃ b : Nat, byv = (b : Int) := ⟨byv.toNat, by omega⟩
    by_cases hb : b = 0
    · subst hb
      exact walk_none s atv w h
    · exact walk_burst s atv b w h hb (by omega)

/-! ### THE ROW's STEP -/
set_option maxRecDepth 100000 in
theorem lifted (os : Os) (started : os.Started) (H : Type) (enc : TypeId × Value → H) :
    ReturnsInHanded {} Try.checked os 5 .any (Rows.crcBurstsSpec.pre6 enc Try.prog Try.f5 Rows.crcBurstsRow.domain false) (Rows.crcBurstsSpec.post enc Try.prog Try.f5 false true false false) := by
  refine returnsInHanded_of_change_sized (C := Try.checked) own started (by kernel_rfl) Try.func5
    (ChangeSpec.witness6 (enc := enc) (C := Try.checked) false ⟨#[], #[.string ByteArray.empty, .int .i64 0, .int .u16 0], []⟩ 8 (by kernel_rfl) (by kernel_rfl) (by kernel_rfl) (by kernel_rfl)) ?_
  intro W base args ds gs before hval0 hW hcnd hsz0 _
  have hval : ∀ (j : Nat) t v, Try.f5.params[j]? = some t → args[j]? = some v → Value.okWide Try.prog W .any base t v := hval0
  have hW' := hW
  obtain ⟨p, q, hA0, hV, rfl, hfz, hnd⟩ := hW
  have hA : DataW.TrodAll enc Try.prog W 0 (fun _ => true) true Try.f5.params.toList args.toList ds p := hA0
  rw [Try.params5] at hA hval
  obtain ⟨v0, vs0, d0, ds0, p0, q0, hargs, rfl, rfl, h0, r0⟩ := trodAll_cons hA
  obtain ⟨v1, vs1, d1, ds1, p1, q1, rfl, rfl, rfl, h1, r1⟩ := trodAll_cons r0
  obtain ⟨v2, vs2, d2, ds2, p2, q2, rfl, rfl, rfl, h2, r2⟩ := trodAll_cons r1
  obtain ⟨rfl, rfl, rfl⟩ := trodAll_nil r2
  obtain rfl : args = #[v0, v1, v2] := by cases args; simp_all
  obtain ⟨rfl, rfl⟩ := trodVars_none hV
  have hz0 : Light Try.prog 9 d0 := light_of hsz0 (j := 0) (by first | rfl | (rw [Try.params5]; rfl)) rfl
  have k0 := h0
  have lt0 : ∀ x ∈ p0, x.block < W.heap.size := by obtain ⟨m, hm⟩ := k0; exact DataW.trod_lt m _ _ _ hm
  obtain ⟨s, rfl, rfl, rfl, h_s⟩ := Go.ChangeMaps.open_string Try.underlying9 (hval 0 9 v0 rfl rfl) h0
  replace h_s : s.size ≤ 140737488351232 := light_string hz0
  have hz1 : Light Try.prog 3 d1 := light_of hsz0 (j := 1) (by first | rfl | (rw [Try.params5]; rfl)) rfl
  have k1 := h1
  have lt1 : ∀ x ∈ p1, x.block < W.heap.size := by obtain ⟨m, hm⟩ := k1; exact DataW.trod_lt m _ _ _ hm
  obtain ⟨atv, rfl, rfl, rfl, h_atv⟩ := open_int Try.underlying3 (hval 1 3 v1 rfl rfl) h1
  have hz2 : Light Try.prog 25 d2 := light_of hsz0 (j := 2) (by first | rfl | (rw [Try.params5]; rfl)) rfl
  have k2 := h2
  have lt2 : ∀ x ∈ p2, x.block < W.heap.size := by obtain ⟨m, hm⟩ := k2; exact DataW.trod_lt m _ _ _ hm
  obtain ⟨byv, rfl, rfl, rfl, h_byv⟩ := open_int Try.underlying25 (hval 2 25 v2 rfl rfl) h2
  clear hA0 hval0
  refine (walk s atv byv W h_s h_atv h_byv).mono fun e W' ⟨he, bel⟩ => ?_
  subst he
  exact ⟨_, rfl, _, _, _, [], _, [], hW', trodAll_mk1 (shut_bool Try.underlying4 _), (trodAll_cons_mk (Below.trod laidOut (by kernel_rfl) (of_decide_eq_true (by kernel_rfl)) k0 bel lt0) (trodAll_cons_mk (Below.trod laidOut (by kernel_rfl) (of_decide_eq_true (by kernel_rfl)) k1 bel lt1) (trodAll_cons_mk (Below.trod laidOut (by kernel_rfl) (of_decide_eq_true (by kernel_rfl)) k2 bel lt2) trodAll_mk0))), rfl, bel.frame _, fun h => by cases h⟩

theorem over : Rows.crcBurstsRow.holds Try.pinned (OpenSpec.ofChange Rows.crcBurstsSpec) :=
  OpenClaim.holds_of_wide 5 Try.f5 rfl rfl rfl rfl rfl rfl rfl ⟨rfl, rfl, rfl, rfl, rfl⟩ rfl rfl rfl rfl rfl (by kernel_rfl) Try.func5 (by kernel_rfl)
    (of_decide_eq_true (by kernel_rfl)) (by unfold Func.isWrapper; first | (rw [if_pos (by decide +kernel)]; kernel_rfl) | (rw [if_neg (by decide +kernel)]; exact ⟨rfl, rfl⟩))
    (fun os started H enc _ => lifted os started H enc)


end Go.Proofs.Ytllhceopllpajaa.crcBursts
namespace Go.Proofs.Ytllhceopllpajaa
/-- THE STATEMENT -/
theorem crcBursts_holds : Rows.CrcBurstsSaid := crcBursts.over
#print axioms crcBursts_holds
end Go.Proofs.Ytllhceopllpajaa
