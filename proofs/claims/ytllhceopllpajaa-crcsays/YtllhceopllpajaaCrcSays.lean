/-
  Whatever is handed in, the law CrcSays returns true: all calls of package crc answer what the document says. No condition.
-/
import Derived.Test.YtllhceopllpajaaRCrc
import Derived.Test.YtllhceopllpajaaOpenZ
import Derived.ProofKit
namespace Go.Proofs.Ytllhceopllpajaa.crcSays
open Go.ChangeShapes Go.WideShapes Go.ChangeAt Go.RowKit
set_option linter.unusedVariables false

theorem own : ownKnob Try.prog.godebug = none := by kernel_rfl
theorem laidOut : laidOutB Try.prog = true := by kernel_rfl


/-- Put and the document's own answer one thing -/
theorem puts (s : ByteArray) (hm : s.size ≤ 140737488351232) : ∃ (a : ByteArray) (e : Int), (∀ W, Calls Try.prog 7 #[.string s] W fun r w' => r = .returned (.tuple #[.string a, .int .i64 e]) ∧ Below W.heap.size W w') ∧ (∀ W, Calls Try.prog 8 #[.string s] W fun r w' => r = .returned (.tuple #[.string a, .int .i64 e]) ∧ Below W.heap.size W w') := by
  rcases Nat.lt_or_ge 4093 s.size with h | h
  · refine ⟨⟨#[]⟩, 2, fun W => (put_large s W hm h).mono ?_, fun W => (rput_large s W hm h).mono ?_⟩
    · rintro e w' ⟨rfl, rfl⟩
      exact ⟨rfl, Below.refl _ _⟩
    · rintro e w' ⟨rfl, rfl⟩
      exact ⟨rfl, Below.refl _ _⟩
  · exact ⟨_, _, fun W => put_ok s W h, fun W => rput_ok s W h⟩
/-- Get and the document's own answer one thing -/
theorem gets (s : ByteArray) (hm : s.size ≤ 140737488351232) : ∃ (a : ByteArray) (e : Int), (∀ W, Calls Try.prog 9 #[.string s] W fun r w' => r = .returned (.tuple #[.string a, .int .i64 e]) ∧ Below W.heap.size W w') ∧ (∀ W, Calls Try.prog 10 #[.string s] W fun r w' => r = .returned (.tuple #[.string a, .int .i64 e]) ∧ Below W.heap.size W w') := by
  rcases Nat.lt_or_ge 4095 s.size with h | h
  · refine ⟨⟨#[]⟩, 2, fun W => (get_large s W hm h).mono ?_, fun W => (rget_large s W hm h).mono ?_⟩
    · rintro e w' ⟨rfl, rfl⟩
      exact ⟨rfl, Below.refl _ _⟩
    · rintro e w' ⟨rfl, rfl⟩
      exact ⟨rfl, Below.refl _ _⟩
  rcases Nat.lt_or_ge s.size 2 with g | g
  · refine ⟨⟨#[]⟩, 3, fun W => (get_short s W g).mono ?_, fun W => (rget_short s W g).mono ?_⟩
    · rintro e w' ⟨rfl, rfl⟩
      exact ⟨rfl, Below.refl _ _⟩
    · rintro e w' ⟨rfl, rfl⟩
      exact ⟨rfl, Below.refl _ _⟩
  obtain ⟨n, hn⟩ : ∃ n, s.size = n + 2 := ⟨s.size - 2, by omega⟩
  cases hq : ((s.extract n (n + 2)).toList == (two (crcN (s.extract 0 n))).toList)
  · exact ⟨_, _, fun W => get_any s n W hn h _ (Or.inr ⟨hq, rfl⟩), fun W => rget_any s n W hn h _ (Or.inr ⟨hq, rfl⟩)⟩
  · exact ⟨_, _, fun W => get_any s n W hn h _ (Or.inl ⟨hq, rfl⟩), fun W => rget_any s n W hn h _ (Or.inl ⟨hq, rfl⟩)⟩

set_option maxHeartbeats 1000000 in
set_option maxRecDepth 100000 in
theorem walk (s : ByteArray) (w : World) (h_s : s.size ≤ 140737488351232) :
    Calls Try.prog 3 #[.string s] w fun e w' => e = .returned (.bool true) ∧ Below w.heap.size w w' := by
  obtain ⟨a, e, p1, p2⟩ := puts s h_s
  obtain ⟨c, g, g1, g2⟩ := gets s h_s
  have P1 : Hid (_) := p1
  have P2 : Hid (_) := p2
  have G1 : Hid (_) := g1
  have G2 : Hid (_) := g2
  clear p1 p2 g1 g2
  have S1 : Hid (∀ W, Calls Try.prog 11 #[.string s] W fun e w' => e = .returned (.int .u16 (crcN s : Nat)) ∧ w' = W) := fun W => sum_any s W h_s
  have S2 : Hid (∀ W, Calls Try.prog 12 #[.string s] W fun e w' => e = .returned (.int .u16 (crcN s : Nat)) ∧ w' = W) := fun W => rcrc_any s W h_s
  generalize crcN s = k at S1 S2
  clear h_s
  go_enter Try.func3, Try.ntmps3
  go_wp2_with fail
  refine (P1.out _).mono ?_
  rintro r w1 ⟨rfl, hb⟩
  have B1 : Hid (Below w.heap.size w w1) := hb
  clear hb
  go_wp2_with fail
  refine (P2.out _).mono ?_
  rintro r w2 ⟨rfl, hb⟩
  have B2 : Hid (Below w.heap.size w w2) := B1.out.trans (hb.mono B1.out.size)
  clear hb B1
  go_wp2_with fail
  refine (G1.out _).mono ?_
  rintro r w3 ⟨rfl, hb⟩
  have B3 : Hid (Below w.heap.size w w3) := B2.out.trans (hb.mono B2.out.size)
  clear hb B2
  go_wp2_with fail
  refine (G2.out _).mono ?_
  rintro r w4 ⟨rfl, hb⟩
  have B4 : Hid (Below w.heap.size w w4) := B3.out.trans (hb.mono B3.out.size)
  clear hb B3
  go_wp2_with fail
  refine (S1.out _).mono ?_
  rintro r w5 ⟨rfl, rfl⟩
  go_wp2_with fail
  refine (S2.out _).mono ?_
  rintro r w6 ⟨rfl, rfl⟩
  go_wp2_with fail
  go_ret
  exact ⟨rfl, B4.out⟩

/-! ### THE ROW's STEP -/
set_option maxRecDepth 100000 in
theorem lifted (os : Os) (started : os.Started) (H : Type) (enc : TypeId × Value → H) :
    ReturnsInHanded {} Try.checked os 3 .any (Rows.crcSaysSpec.pre6 enc Try.prog Try.f3 Rows.crcSaysRow.domain false) (Rows.crcSaysSpec.post enc Try.prog Try.f3 false true false false) := by
  refine returnsInHanded_of_change_sized (C := Try.checked) own started (by kernel_rfl) Try.func3
    (ChangeSpec.witness6 (enc := enc) (C := Try.checked) false ⟨#[], #[.string ByteArray.empty], []⟩ 8 (by kernel_rfl) (by kernel_rfl) (by kernel_rfl) (by kernel_rfl)) ?_
  intro W base args ds gs before hval0 hW hcnd hsz0 _
  have hval : ∀ (j : Nat) t v, Try.f3.params[j]? = some t → args[j]? = some v → Value.okWide Try.prog W .any base t v := hval0
  have hW' := hW
  obtain ⟨p, q, hA0, hV, rfl, hfz, hnd⟩ := hW
  have hA : DataW.TrodAll enc Try.prog W 0 (fun _ => true) true Try.f3.params.toList args.toList ds p := hA0
  rw [Try.params3] at hA hval
  obtain ⟨v0, vs0, d0, ds0, p0, q0, hargs, rfl, rfl, h0, r0⟩ := trodAll_cons hA
  obtain ⟨rfl, rfl, rfl⟩ := trodAll_nil r0
  obtain rfl : args = #[v0] := by cases args; simp_all
  obtain ⟨rfl, rfl⟩ := trodVars_none hV
  have hz0 : Light Try.prog 9 d0 := light_of hsz0 (j := 0) (by first | rfl | (rw [Try.params3]; rfl)) rfl
  have k0 := h0
  have lt0 : ∀ x ∈ p0, x.block < W.heap.size := by obtain ⟨m, hm⟩ := k0; exact DataW.trod_lt m _ _ _ hm
  obtain ⟨s, rfl, rfl, rfl, h_s⟩ := Go.ChangeMaps.open_string Try.underlying9 (hval 0 9 v0 rfl rfl) h0
  replace h_s : s.size ≤ 140737488351232 := light_string hz0
  clear hA0 hval0
  refine (walk s W h_s).mono fun e W' ⟨he, bel⟩ => ?_
  subst he
  exact ⟨_, rfl, _, _, _, [], _, [], hW', trodAll_mk1 (shut_bool Try.underlying4 _), (trodAll_cons_mk (Below.trod laidOut (by kernel_rfl) (of_decide_eq_true (by kernel_rfl)) k0 bel lt0) trodAll_mk0), rfl, bel.frame _, fun h => by cases h⟩

theorem over : Rows.crcSaysRow.holds Try.pinned (OpenSpec.ofChange Rows.crcSaysSpec) :=
  OpenClaim.holds_of_wide 3 Try.f3 rfl rfl rfl rfl rfl rfl rfl ⟨rfl, rfl, rfl, rfl, rfl⟩ rfl rfl rfl rfl rfl (by kernel_rfl) Try.func3 (by kernel_rfl)
    (of_decide_eq_true (by kernel_rfl)) (by unfold Func.isWrapper; first | (rw [if_pos (by decide +kernel)]; kernel_rfl) | (rw [if_neg (by decide +kernel)]; exact ⟨rfl, rfl⟩))
    (fun os started H enc _ => lifted os started H enc)


end Go.Proofs.Ytllhceopllpajaa.crcSays
namespace Go.Proofs.Ytllhceopllpajaa
/-- THE STATEMENT -/
theorem crcSays_holds : Rows.CrcSaysSaid := crcSays.over
#print axioms crcSays_holds
end Go.Proofs.Ytllhceopllpajaa
