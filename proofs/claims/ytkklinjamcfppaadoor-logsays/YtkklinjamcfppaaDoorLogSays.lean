/-
  Whatever is handed in, the law LogSays returns true: Check, Put, Text and Read answer what the document's own calls answer. No condition on the input; the library's tables and errors read as its text lays them (the card ties them).
-/
import Derived.Test.YtkklinjamcfppaaDoorLogSaysW
import Derived.Test.YtkklinjamcfppaaDoorOpenE
import Derived.Test.YtkklinjamcfppaaDoorDoorVar
import Derived.Test.YtkklinjamcfppaaDoorTie
import Derived.Test.YtkklinjamcfppaaDoorCards
import Derived.SevenTiedAt
import Derived.ProofKit
import Derived.Lay
namespace Go.Proofs.YtkklinjamcfppaaDoor.logSays
open Go.ChangeShapes Go.WideShapes Go.ChangeAt Go.RowKit
set_option linter.unusedVariables false

theorem own : ownKnob Tryd.prog.godebug = none := by kernel_rfl
theorem laidOut : laidOutB Tryd.prog = true := by kernel_rfl


theorem met (W : World) (h : laidMetH Tryd.prog Rows.logSaysRow.laid W) (hs : W.ShapedOpen Tryd.prog) : Met W := by
  rw [MakeChecks.laidMetH_plain _ _ _ (by kernel_rfl)] at h
  have h3 := h.tail.tail
  have h5 := h3.tail.tail
  exact vb_of (p10_of h3) h5 h5.tail hs

/-! ### THE ROW's STEP -/
theorem door_met (os : Os) (args : Array Value) : laidMetH Tryd.prog Rows.logSaysRow.laid ((World.laidAll Tryd.prog os Rows.logSaysRow.laid).forCall (fun _ _ => 0) ⟨#[], args, []⟩).memory := by
  rw [MakeChecks.laidMetH_plain _ _ _ (by kernel_rfl)]
  exact laidMet_laidAll _ (by kernel_rfl) (by kernel_rfl)

set_option maxRecDepth 100000 in
theorem lifted (os : Os) (started : os.Started) (H : Type) (enc : TypeId × Value → H) :
    ReturnsInHanded {} Tryd.checked os 3 .any (fun w args => (Rows.logSaysSpec.pre enc Tryd.prog Tryd.f3 Rows.logSaysRow.domain false w args ∧ laidMetH Tryd.prog Rows.logSaysRow.laid w) ∧ sizedMet enc Tryd.prog Tryd.f3 (OpenSpec.ofChange Rows.logSaysSpec) false w args) (Rows.logSaysSpec.post enc Tryd.prog Tryd.f3 false true false false) := by
  refine returns_door (C := Tryd.checked) (X := fun w _ => laidMetH Tryd.prog Rows.logSaysRow.laid w) (fun _ _ _ hh h => h.of_heap hh) own started (by kernel_rfl) Tryd.func3
    (ChangeSpec.witness_shaped (enc := enc) (C := Tryd.checked) (os := os) (X := fun w _ => laidMetH Tryd.prog Rows.logSaysRow.laid w) false (World.laidAll Tryd.prog os Rows.logSaysRow.laid) #[.slice none 0 0, .int .i64 0, .int .i64 0, .int .i64 0, .string ByteArray.empty] 8 (World.laidAll_os _ _ _) (World.shaped_of_ZipB (by kernel_rfl) (by kernel_rfl)) (by kernel_rfl) (by kernel_rfl) (by kernel_rfl) (door_met os _)) ?_
  intro W base args ds gs before hval0 hW hsz0 hL hsh
  have h_met := met W hL hsh
  clear hL hsh
  have hval : ∀ (j : Nat) t v, Tryd.f3.params[j]? = some t → args[j]? = some v → Value.okWide Tryd.prog W .any base t v := hval0
  have hW' := hW
  obtain ⟨p, q, hA0, hV, rfl, hfz, hnd⟩ := hW
  have hA : DataW.TrodAll enc Tryd.prog W 0 (fun _ => true) true Tryd.f3.params.toList args.toList ds p := hA0
  rw [Tryd.params3] at hA hval
  obtain ⟨v_0, vs_0, d_0, ds_0, p_0, q_0, hargs, rfl, rfl, h_0, r_0⟩ := trodAll_cons hA
  obtain ⟨v_1, vs_1, d_1, ds_1, p_1, q_1, rfl, rfl, rfl, h_1, r_1⟩ := trodAll_cons r_0
  obtain ⟨v_2, vs_2, d_2, ds_2, p_2, q_2, rfl, rfl, rfl, h_2, r_2⟩ := trodAll_cons r_1
  obtain ⟨v_3, vs_3, d_3, ds_3, p_3, q_3, rfl, rfl, rfl, h_3, r_3⟩ := trodAll_cons r_2
  obtain ⟨v_4, vs_4, d_4, ds_4, p_4, q_4, rfl, rfl, rfl, h_4, r_4⟩ := trodAll_cons r_3
  obtain ⟨rfl, rfl, rfl⟩ := trodAll_nil r_4
  obtain rfl : args = #[v_0, v_1, v_2, v_3, v_4] := by cases args; simp_all
  obtain ⟨rfl, rfl⟩ := trodVars_none hV
  have hz_0 : Light Tryd.prog 22 d_0 := light_of hsz0 (j := 0) (by first | rfl | (rw [Tryd.params3]; rfl)) rfl
  have k_0 := h_0
  have lt_0 : ∀ x ∈ p_0, x.block < W.heap.size := by obtain ⟨m, hm⟩ := k_0; exact DataW.trod_lt m _ _ _ hm
  obtain ⟨la, ln, lc, rfl⟩ := okWide_slice Tryd.underlying22 (hval 0 22 v_0 rfl rfl)
  obtain ⟨l, h_l⟩ : ∃ l, RowI W la ln lc l := by
    obtain ⟨fuel, hf⟩ := h_0
    obtain ⟨a, m, c, l, hcs, hr⟩ := rowI_of hf hz_0
    simp [Value.cells] at hcs
    obtain ⟨rfl, rfl, rfl⟩ := hcs
    exact ⟨l, hr⟩
  have hz_1 : Light Tryd.prog 3 d_1 := light_of hsz0 (j := 1) (by first | rfl | (rw [Tryd.params3]; rfl)) rfl
  have k_1 := h_1
  have lt_1 : ∀ x ∈ p_1, x.block < W.heap.size := by obtain ⟨m, hm⟩ := k_1; exact DataW.trod_lt m _ _ _ hm
  obtain ⟨n, rfl, rfl, rfl, h_n⟩ := open_int Tryd.underlying3 (hval 1 3 v_1 rfl rfl) h_1
  have hz_2 : Light Tryd.prog 3 d_2 := light_of hsz0 (j := 2) (by first | rfl | (rw [Tryd.params3]; rfl)) rfl
  have k_2 := h_2
  have lt_2 : ∀ x ∈ p_2, x.block < W.heap.size := by obtain ⟨m, hm⟩ := k_2; exact DataW.trod_lt m _ _ _ hm
  obtain ⟨k, rfl, rfl, rfl, h_k⟩ := open_int Tryd.underlying3 (hval 2 3 v_2 rfl rfl) h_2
  have hz_3 : Light Tryd.prog 3 d_3 := light_of hsz0 (j := 3) (by first | rfl | (rw [Tryd.params3]; rfl)) rfl
  have k_3 := h_3
  have lt_3 : ∀ x ∈ p_3, x.block < W.heap.size := by obtain ⟨m, hm⟩ := k_3; exact DataW.trod_lt m _ _ _ hm
  obtain ⟨code, rfl, rfl, rfl, h_code⟩ := open_int Tryd.underlying3 (hval 3 3 v_3 rfl rfl) h_3
  have hz_4 : Light Tryd.prog 9 d_4 := light_of hsz0 (j := 4) (by first | rfl | (rw [Tryd.params3]; rfl)) rfl
  have k_4 := h_4
  have lt_4 : ∀ x ∈ p_4, x.block < W.heap.size := by obtain ⟨m, hm⟩ := k_4; exact DataW.trod_lt m _ _ _ hm
  obtain ⟨s, rfl, rfl, rfl, h_s⟩ := Go.ChangeMaps.open_string Tryd.underlying9 (hval 4 9 v_4 rfl rfl) h_4
  replace h_s : s.size ≤ 140737488351232 := light_string hz_4
  clear hA0 hval0
  refine (walk la ln lc l n k code s W h_l h_n h_k h_code h_s h_met).mono fun e W' ⟨he, bel⟩ => ?_
  subst he
  exact ⟨_, rfl, _, _, _, [], _, [], hW', trodAll_mk1 (shut_bool Tryd.underlying4 _), (trodAll_cons_mk (Below.trod laidOut (by kernel_rfl) (of_decide_eq_true (by kernel_rfl)) k_0 bel lt_0) (trodAll_cons_mk (Below.trod laidOut (by kernel_rfl) (of_decide_eq_true (by kernel_rfl)) k_1 bel lt_1) (trodAll_cons_mk (Below.trod laidOut (by kernel_rfl) (of_decide_eq_true (by kernel_rfl)) k_2 bel lt_2) (trodAll_cons_mk (Below.trod laidOut (by kernel_rfl) (of_decide_eq_true (by kernel_rfl)) k_3 bel lt_3) (trodAll_cons_mk (Below.trod laidOut (by kernel_rfl) (of_decide_eq_true (by kernel_rfl)) k_4 bel lt_4) trodAll_mk0))))), rfl, bel.frame _, fun h => by cases h⟩

theorem over : Rows.logSaysRow.holds Tryd.pinned (OpenSpec.ofChange Rows.logSaysSpec) :=
  OpenClaim.holds_of_wide 3 Tryd.f3 rfl rfl rfl rfl rfl rfl rfl ⟨rfl, rfl, rfl, rfl, rfl⟩ rfl rfl rfl rfl rfl (by kernel_rfl) Tryd.func3 (by kernel_rfl)
    (of_decide_eq_true (by kernel_rfl)) (by unfold Func.isWrapper; first | (rw [if_pos (by decide +kernel)]; kernel_rfl) | (rw [if_neg (by decide +kernel)]; exact ⟨rfl, rfl⟩))
    (fun os started H enc _ => lifted os started H enc)

theorem card : Claim7.holds Tryd.pinned (.plain (OpenSpec.ofChange Rows.logSaysSpec)) Rows.logSaysCard :=
  Claim7.holds_tied_plain_at .later [] [.data, .data, .data, .data, .sentinel, .sentinel, .pinned] true (true, "36e40334727ddcf433daec90878d335fdd80ff0e156ff5406641eae5622d47b1") true
    over (fun _ h => by cases h) (by kernel_rfl) (fun _ h => by cases h) logSays_row_tie rfl ⟨rfl, rfl⟩ (by kernel_rfl) rfl
    (fun f fn hf hfn => by
      obtain rfl : f = 3 := Option.some.inj ((show Tryd.prog.funcNamed "steadyhand/steadlaw.LogSays" = some 3 by kernel_rfl).symm.trans hf) |>.symm
      obtain rfl : fn = Tryd.f3 := (Option.some.inj (Tryd.func3.symm.trans hfn)).symm
      exact ⟨by kernel_rfl, fun j t ht => by
        rw [Tryd.params3] at ht
        have hm : t ∈ [22, 3, 3, 3, 9] := by simpa using Array.mem_of_getElem? ht
        have hall : ([22, 3, 3, 3, 9].all fun u => !Tryd.prog.wantsStandIn u) = true := by kernel_rfl
        exact (show Tryd.prog.wantsStandIn t = false by simpa using List.all_eq_true.1 hall t hm)⟩)
    (by kernel_rfl)


end Go.Proofs.YtkklinjamcfppaaDoor.logSays
namespace Go.Proofs.YtkklinjamcfppaaDoor
/-- THE STATEMENT -/
theorem logSays_holds : Rows.LogSaysCardSaid := logSays.card
#print axioms logSays_holds
end Go.Proofs.YtkklinjamcfppaaDoor
