/-
  A region that draws its order, and that at its end stores into cells which it has read: a condition U on the world holds behind every operation, and up to the first of those stores (number q, which waits for the readings) T besides; so what is read is read first.
-/
import Derived.Test.YtjbhmkdodcmhhaaRows
import Derived.WalkKit
import Derived.OrdersHeld
import Derived.RegionTactic
namespace Go.Proofs.Ytjbhmkdodcmhhaa
open Go

section
variable {P : Program} {ops : Array Oper} {Q : Exit → Act → World → Prop} {md : Region.Mode} {U T : World → Prop} {q : Nat}

/-- whatever order is picked from here on; and behind every operation U holds, and T as long as number q has not come up -/
def wpUntil (P : Program) (md : Region.Mode) (ops : Array Oper) (Q : Exit → Act → World → Prop) (U T : World → Prop) (q : Nat) : Nat → Array Bool → Act → World → Prop
  | 0, listed, a, w => Region.ready md ops listed = [] ∧ Q .normal a w
  | fuel + 1, listed, a, w => (Region.ready md ops listed = [] → Q .normal a w) ∧
    ∀ i ∈ Region.ready md ops listed, wpOp P ops Q i (fun a' w' => (U w' ∧ ((listed.setIfInBounds i true).getD q false = true ∨ T w')) ∧ wpUntil P md ops Q U T q fuel (listed.setIfInBounds i true) a' w') a w

theorem any_of_until : ∀ (fuel : Nat) (listed : Array Bool) (a : Act) (w : World), wpUntil P md ops Q U T q fuel listed a w → wpAny P md ops Q fuel listed a w
  | 0, _, _, _, h => h
  | fuel + 1, _, _, _, h => ⟨h.1, fun i hi => wpOp_mono (fun a' w' g => any_of_until fuel _ a' w' g.2) (h.2 i hi)⟩

theorem unlisted {listed : Array Bool} {i : Nat} (h : listed.getD i true = false) : listed.getD i false = false := by
  rcases Nat.lt_or_ge i listed.size with g | g
  · simp [g] at h ⊢
    exact h
  · simp [Array.getElem?_eq_none g]

theorem not_after {listed : Array Bool} {i : Nat} {oj : Oper} (hr : i ∈ Region.ready md ops listed) (hall : ∀ e ∈ oj.after, Region.binds md e = true → listed.getD e.on false = true) : ∀ x ∈ oj.after, Region.binds md x = true → x.on ≠ i := fun x hx hb hxi => by
  have g := hall x hx hb
  rw [hxi, unlisted (mem_ready.1 hr).1] at g
  cases g
theorem free_next {listed : Array Bool} {i j : Nat} {oi : Oper} (hun : listed.getD j true = false)
    (hfree : ∀ j oj, ops[j]? = some oj → j ≠ i → listed.getD j true = false → (∀ e ∈ oj.after, Region.binds md e = true → e.on ≠ i) → oi.apart ops oj = true) :
    ∀ k ok, ops[k]? = some ok → k ≠ i → (listed.setIfInBounds j true).getD k true = false → (∀ e ∈ ok.after, Region.binds md e = true → e.on ≠ i) → oi.apart ops ok = true := fun k ok hk hki hku hno => by
  refine hfree k ok hk hki ?_ hno
  by_cases e : j = k
  · subst e; exact hun
  · rwa [getD_set_ne true e] at hku

/-- what yields its value wherever U holds may be taken first -/
theorem until_firstU {i : Nat} {oi : Oper} {v : Value} (hi : ops[i]? = some oi) (hiq : i ≠ q)
    (hsel : ∀ (j : Nat) (o : Oper) cs b, ops[j]? = some o → o.op ≠ .select cs b) (hQ : ∀ c a w, Q (.panic c) (a.put oi.dst v) w → Q (.panic c) a w) (fuel : Nat) :
    ∀ (listed : Array Bool) (a : Act) (w : World),
      (∀ j oj, ops[j]? = some oj → j ≠ i → listed.getD j true = false → (∀ e ∈ oj.after, Region.binds md e = true → e.on ≠ i) → oi.apart ops oj = true) →
      i ∈ Region.ready md ops listed → YieldsIf P ops U oi v a → U w → (listed.getD q false = true ∨ T w) →
      wpUntil P md ops Q U T q fuel (listed.setIfInBounds i true) (a.put oi.dst v) w → wpUntil P md ops Q U T q (fuel + 1) listed a w := by
  induction fuel with
  | zero =>
    intro listed a w _ hr hy hU hT h
    refine ⟨fun e => absurd hr (by rw [e]; exact List.not_mem_nil), fun j hj => ?_⟩
    by_cases e : j = i
    · subst e
      exact hy.wpOp hi hU ⟨⟨hU, hT.imp (fun g => getD_set_true g) id⟩, h⟩
    · have g := ready_mono hj e
      rw [h.1] at g
      exact absurd g List.not_mem_nil
  | succ fuel ih =>
    intro listed a w hfree hr hy hU hT h
    refine ⟨fun e => absurd hr (by rw [e]; exact List.not_mem_nil), fun j hj => ?_⟩
    by_cases e : j = i
    · subst e
      exact hy.wpOp hi hU ⟨⟨hU, hT.imp (fun g => getD_set_true g) id⟩, h⟩
    · obtain ⟨hun, oj, hoj, hall⟩ := mem_ready.1 hj
      have step := wpOp_putIf hoj (hfree j oj hoj e hun (not_after hr hall)) (fun cs b => hsel i oi cs b hi) (fun cs b => hsel j oj cs b hoj) hQ hy (h.2 j (ready_mono hj e))
      refine wpOp_mono (fun a' w' g => ?_) step
      have hT' : (listed.setIfInBounds j true).getD q false = true ∨ T w' := g.2.1.2.imp (fun x => by rwa [Array.setIfInBounds_comm _ _ (Ne.symm e), getD_set_ne false hiq] at x) id
      refine ⟨⟨g.2.1.1, hT'⟩, ih (listed.setIfInBounds j true) a' w' (free_next hun hfree) (ready_mono hr (Ne.symm e)) g.1 g.2.1.1 hT' ?_⟩
      rw [Array.setIfInBounds_comm _ _ e]
      exact g.2.2

/-- .. and what q waits for, and yields its value wherever U and T hold -/
theorem until_firstT {i : Nat} {oi oq : Oper} {v : Value} (hi : ops[i]? = some oi) (hoq : ops[q]? = some oq) (hiq : i ≠ q) (hwait : ∃ e ∈ oq.after, Region.binds md e = true ∧ e.on = i)
    (hsel : ∀ (j : Nat) (o : Oper) cs b, ops[j]? = some o → o.op ≠ .select cs b) (hQ : ∀ c a w, Q (.panic c) (a.put oi.dst v) w → Q (.panic c) a w) (fuel : Nat) :
    ∀ (listed : Array Bool) (a : Act) (w : World),
      (∀ j oj, ops[j]? = some oj → j ≠ i → listed.getD j true = false → (∀ e ∈ oj.after, Region.binds md e = true → e.on ≠ i) → oi.apart ops oj = true) →
      i ∈ Region.ready md ops listed → listed.getD q false = false → YieldsIf P ops (fun w => U w ∧ T w) oi v a → U w → T w →
      wpUntil P md ops Q U T q fuel (listed.setIfInBounds i true) (a.put oi.dst v) w → wpUntil P md ops Q U T q (fuel + 1) listed a w := by
  induction fuel with
  | zero =>
    intro listed a w _ hr _ hy hU hT h
    refine ⟨fun e => absurd hr (by rw [e]; exact List.not_mem_nil), fun j hj => ?_⟩
    by_cases e : j = i
    · subst e
      exact hy.wpOp hi ⟨hU, hT⟩ ⟨⟨hU, .inr hT⟩, h⟩
    · have g := ready_mono hj e
      rw [h.1] at g
      exact absurd g List.not_mem_nil
  | succ fuel ih =>
    intro listed a w hfree hr hq hy hU hT h
    refine ⟨fun e => absurd hr (by rw [e]; exact List.not_mem_nil), fun j hj => ?_⟩
    by_cases e : j = i
    · subst e
      exact hy.wpOp hi ⟨hU, hT⟩ ⟨⟨hU, .inr hT⟩, h⟩
    · obtain ⟨hun, oj, hoj, hall⟩ := mem_ready.1 hj
      have hnot := not_after hr hall
      have hjq : j ≠ q := by
        rintro rfl
        rw [hoq] at hoj
        obtain rfl := Option.some.inj hoj
        obtain ⟨x, hx, hb, hxi⟩ := hwait
        exact hnot x hx hb hxi
      have step := wpOp_putIf hoj (hfree j oj hoj e hun hnot) (fun cs b => hsel i oi cs b hi) (fun cs b => hsel j oj cs b hoj) hQ hy (h.2 j (ready_mono hj e))
      have hq' : (listed.setIfInBounds j true).getD q false = false := by rw [getD_set_ne false hjq]; exact hq
      refine wpOp_mono (fun a' w' g => ?_) step
      have hT' : T w' := by
        rcases g.2.1.2 with g' | g'
        · rw [getD_set_ne false hjq, getD_set_ne false hiq, hq] at g'
          cases g'
        · exact g'
      refine ⟨⟨g.2.1.1, .inr hT'⟩, ih (listed.setIfInBounds j true) a' w' (free_next hun hfree) (ready_mono hr (Ne.symm e)) hq' g.1 g.2.1.1 hT' ?_⟩
      rw [Array.setIfInBounds_comm _ _ e]
      exact g.2.2

def waits (md : Region.Mode) (ops : Array Oper) (q i : Nat) : Bool := match ops[q]? with | some o => o.after.any fun e => Region.binds md e && e.on == i | none => false
theorem waits_spec {oq : Oper} {i : Nat} (hoq : ops[q]? = some oq) (h : waits md ops q i = true) : ∃ e ∈ oq.after, Region.binds md e = true ∧ e.on = i := by
  unfold waits at h
  rw [hoq] at h
  obtain ⟨e, he, hb⟩ := Array.any_eq_true'.1 h
  simp only [Bool.and_eq_true, beq_iff_eq] at hb
  exact ⟨e, he, hb.1, hb.2⟩

/-! ### The moves -/

theorem until_takeU {i : Nat} {oi : Oper} {v : Value} {fuel : Nat} {listed : Array Bool} {a : Act} {w : World} (hi : ops[i]? = some oi) (hiq : i ≠ q)
    (hs : Region.noSelect ops = true) (hf : Region.free md ops listed i = true) (hr : (Region.ready md ops listed).contains i = true)
    (hQ : ∀ c a w, Q (.panic c) (a.put oi.dst v) w → Q (.panic c) a w) (hy : YieldsIf P ops U oi v a) (hU : U w) (hT : listed.getD q false = true ∨ T w)
    (h : wpUntil P md ops Q U T q fuel (listed.setIfInBounds i true) (a.put oi.dst v) w) : wpUntil P md ops Q U T q (fuel + 1) listed a w :=
  until_firstU hi hiq (Region.noSelect_spec hs) hQ fuel listed a w (Region.free_spec hi hf) (by simpa using hr) hy hU hT h

theorem until_takeT {i : Nat} {oi oq : Oper} {v : Value} {fuel : Nat} {listed : Array Bool} {a : Act} {w : World} (hi : ops[i]? = some oi) (hoq : ops[q]? = some oq) (hiq : i ≠ q) (hw : waits md ops q i = true)
    (hs : Region.noSelect ops = true) (hf : Region.free md ops listed i = true) (hr : (Region.ready md ops listed).contains i = true) (hq : listed.getD q false = false)
    (hQ : ∀ c a w, Q (.panic c) (a.put oi.dst v) w → Q (.panic c) a w) (hy : YieldsIf P ops (fun w => U w ∧ T w) oi v a) (hU : U w) (hT : T w)
    (h : wpUntil P md ops Q U T q fuel (listed.setIfInBounds i true) (a.put oi.dst v) w) : wpUntil P md ops Q U T q (fuel + 1) listed a w :=
  until_firstT hi hoq hiq (waits_spec hoq hw) (Region.noSelect_spec hs) hQ fuel listed a w (Region.free_spec hi hf) (by simpa using hr) hq hy hU hT h

def AllUntil (P : Program) (md : Region.Mode) (ops : Array Oper) (Q : Exit → Act → World → Prop) (U T : World → Prop) (q fuel : Nat) (listed : Array Bool) (a : Act) (w : World) (rs : List Nat) : Prop :=
  ∀ i ∈ rs, wpOp P ops Q i (fun a' w' => (U w' ∧ ((listed.setIfInBounds i true).getD q false = true ∨ T w')) ∧ wpUntil P md ops Q U T q fuel (listed.setIfInBounds i true) a' w') a w
theorem AllUntil.nil {fuel : Nat} {listed : Array Bool} {a : Act} {w : World} : AllUntil P md ops Q U T q fuel listed a w [] := fun _ h => absurd h List.not_mem_nil
theorem AllUntil.cons {fuel : Nat} {listed : Array Bool} {a : Act} {w : World} {i : Nat} {o : Oper} {rs : List Nat} (ho : ops[i]? = some o)
    (h : ∀ K : Act → World → Prop, (∀ a w, U w → ((listed.setIfInBounds i true).getD q false = true ∨ T w) → wpUntil P md ops Q U T q fuel (listed.setIfInBounds i true) a w → K a w) → if Region.wanted o (yielded ops a.tmps) = true then Oper.wp P o a w K Q else K (a.put o.dst undef) w)
    (hs : AllUntil P md ops Q U T q fuel listed a w rs) : AllUntil P md ops Q U T q fuel listed a w (i :: rs) := fun j hj => by
  rcases List.mem_cons.1 hj with rfl | hj
  · exact wpOp_step ho fun K hK => h K fun a w hU hT hr => hK a w ⟨⟨hU, hT⟩, hr⟩
  · exact hs j hj
theorem until_ready {rs : List Nat} {fuel : Nat} {listed : Array Bool} {a : Act} {w : World} (hr : Region.ready md ops listed = rs) (hne : rs ≠ [])
    (h : AllUntil P md ops Q U T q fuel listed a w rs) : wpUntil P md ops Q U T q (fuel + 1) listed a w := ⟨fun h0 => absurd (hr ▸ h0) hne, hr ▸ h⟩
theorem until_done {listed : Array Bool} {a : Act} {w : World} (hr : Region.ready md ops listed = []) (h : Q .normal a w) : ∀ fuel, wpUntil P md ops Q U T q fuel listed a w
  | 0 => ⟨hr, h⟩
  | _ + 1 => ⟨fun _ => h, fun i hi => by rw [hr] at hi; exact absurd hi List.not_mem_nil⟩
theorem wp_region_until {id : Nat} {a : Act} {w : World} (hm : P.follows .mixedOrders = true) (h : wpUntil P .any ops Q U T q ops.size (Array.replicate ops.size false) a w.drew) : (Code.region id ops true).wp P Q a w :=
  wp_region_any hm (any_of_until _ _ _ _ h)
end

end Go.Proofs.Ytjbhmkdodcmhhaa
