/-
  A region that draws its order and fills a map that it made: the entries go in, in whatever order they come up; behind them all, ONE goal: the map holds just these. No program shows in it.
-/
import Derived.Test.YtnomceopmjlbhaaRows
import Derived.WalkKit
import Derived.Below
import Derived.OrdersHeld
import Derived.RegionTactic
import Derived.Deep.RegionHeld
import Derived.Maps.Own
import Derived.Maps.OwnSet
import Derived.Maps.AppendAt
import Derived.Test.YtnomceopmjlbhaaLay
namespace Go.Proofs.Ytnomceopmjlbhaa
open Go Go.RowKit

theorem Lay.grown {w : World} {L : List (List Value)} {W W' : World} {B : Nat} (h : Lay w L W) (hg : W.grownBy W' (some B)) (hB : w.heap.size + L.length ≤ B) (hW : w.heap.size + L.length ≤ W.heap.size) : Lay w L W' := by
  have hb : Below (w.heap.size + L.length) W W' := (Below.refl _ W).grown hg hW (fun j hj => by cases hj; exact hB)
  refine ⟨h.bel.grown hg h.bel.size (fun j hj => by cases hj; omega), fun i b vs e hi => ?_⟩
  have := (List.getElem?_eq_some_iff.1 hi).1
  exact (h.blk i b vs e hi).later hb (by omega)

section
variable {P : Program} {ops : Array Oper} {Q : Exit → Act → World → Prop} {md : Region.Mode} {S : World → Prop}

/-- all have come up but those of E and of T -/
def Left (ops : Array Oper) (E T : List Nat) (l : Array Bool) : Prop := l.size = ops.size ∧ ∀ i, i < ops.size → l.getD i true = !(E.contains i || T.contains i)
def allBut (ops : Array Oper) (T : List Nat) : Array Bool := (Array.range ops.size).map fun i => !T.contains i
theorem getD_in {l : Array Bool} {i : Nat} (h : i < l.size) (x y : Bool) : l.getD i x = l.getD i y := by simp [Array.getD, h]
theorem Left.nil {T : List Nat} {l : Array Bool} (h : Left ops [] T l) : l = allBut ops T := by
  apply Array.ext
  · simp [allBut, h.1]
  · intro i h1 h2
    have := h.2 i (by rw [← h.1]; exact h1)
    simp only [Array.getD, h1, dif_pos] at this
    simpa [allBut] using this
theorem Left.take {E T : List Nat} {l : Array Bool} (h : Left ops E T l) (hd : E.Nodup) {i : Nat} (hi : i ∈ E) (hT : i ∉ T) : Left ops (E.erase i) T (l.setIfInBounds i true) := by
  refine ⟨by simp [h.1], fun j hj => ?_⟩
  have hl : j < l.size := by rw [h.1]; exact hj
  by_cases e : j = i
  · subst e
    have h1 : (E.erase j).contains j = false := by
      rw [Bool.eq_false_iff]
      intro q
      exact absurd (List.contains_iff_mem.1 q) (List.Nodup.not_mem_erase hd)
    have h2 : T.contains j = false := by
      rw [Bool.eq_false_iff]
      intro q
      exact absurd (List.contains_iff_mem.1 q) hT
    rw [h1, h2]
    simp [Array.getD, hl]
  · have h1 : (E.erase i).contains j = E.contains j := by
      rw [Bool.eq_iff_iff, List.contains_iff_mem, List.contains_iff_mem, List.mem_erase_of_ne e]
    have h2 := h.2 j hj
    rw [h1, ← h2]
    simp [Array.getD, hl, Ne.symm e]

/-- what E's wait for has come up; T's wait for all of E -/
structure InsP (md : Region.Mode) (ops : Array Oper) (E T : List Nat) : Prop where
  e : ∀ i ∈ E, i ∉ T ∧ ∃ o, ops[i]? = some o ∧ ∀ x ∈ o.after, Region.binds md x = true → x.on < ops.size ∧ x.on ∉ E ∧ x.on ∉ T
  t : ∀ i ∈ T, ∀ o, ops[i]? = some o → ∀ j ∈ E, ∃ x ∈ o.after, Region.binds md x = true ∧ x.on = j
theorem InsP.erase {E T : List Nat} (h : InsP md ops E T) (i : Nat) : InsP md ops (E.erase i) T := by
  refine ⟨fun j hj => ?_, fun j hj o ho k hk => h.t j hj o ho k (List.mem_of_mem_erase hk)⟩
  obtain ⟨h1, o, h2, h3⟩ := h.e j (List.mem_of_mem_erase hj)
  refine ⟨h1, o, h2, fun x hx hb => ?_⟩
  obtain ⟨a, b, c⟩ := h3 x hx hb
  exact ⟨a, fun q => b (List.mem_of_mem_erase q), c⟩
def insB (md : Region.Mode) (ops : Array Oper) (E T : List Nat) : Bool :=
  (E.all fun i => !T.contains i && match ops[i]? with
    | none => false
    | some o => o.after.toList.all fun x => !Region.binds md x || (decide (x.on < ops.size) && !E.contains x.on && !T.contains x.on)) &&
  T.all fun i => match ops[i]? with
    | none => true
    | some o => E.all fun j => o.after.toList.any fun x => Region.binds md x && x.on == j
theorem insB_spec {E T : List Nat} (h : insB md ops E T = true) : InsP md ops E T := by
  unfold insB at h
  rw [Bool.and_eq_true, List.all_eq_true, List.all_eq_true] at h
  obtain ⟨h1, h2⟩ := h
  refine ⟨fun i hi => ?_, fun i hi o ho j hj => ?_⟩
  · have g := h1 i hi
    rw [Bool.and_eq_true] at g
    obtain ⟨g1, g2⟩ := g
    refine ⟨by simpa using g1, ?_⟩
    cases ho : ops[i]? with
    | none => rw [ho] at g2; cases g2
    | some o =>
      rw [ho] at g2
      refine ⟨o, rfl, fun x hx hb => ?_⟩
      have g3 := List.all_eq_true.1 g2 x (by simpa using hx)
      rw [hb] at g3
      simp only [Bool.not_true, Bool.false_or, Bool.and_eq_true, decide_eq_true_eq, Bool.not_eq_true'] at g3
      obtain ⟨⟨a, b⟩, c⟩ := g3
      exact ⟨a, by simpa using b, by simpa using c⟩
  · have g := h2 i hi
    rw [ho] at g
    have g3 := List.all_eq_true.1 g j hj
    obtain ⟨x, hx, hy⟩ := List.any_eq_true.1 g3
    rw [Bool.and_eq_true, beq_iff_eq] at hy
    exact ⟨x, by simpa using hx, hy.1, hy.2⟩
theorem Left.one {E T : List Nat} {l : Array Bool} (h : Left ops E T l) (hp : InsP md ops E T) {j : Nat} (hj : j ∈ E) {i : Nat} (hi : i ∈ Region.ready md ops l) : i ∈ E := by
  obtain ⟨h1, o, ho, h2⟩ := mem_ready.1 hi
  have hlt : i < ops.size := (Array.getElem?_eq_some_iff.1 ho).1
  rw [h.2 i hlt] at h1
  have h3 : E.contains i = true ∨ T.contains i = true := by
    cases hE : E.contains i <;> cases hT : T.contains i <;> simp_all
  rcases h3 with h3 | h3
  · exact List.contains_iff_mem.1 h3
  · exfalso
    obtain ⟨x, hx, hb, hq⟩ := hp.t i (List.contains_iff_mem.1 h3) o ho j hj
    have h4 := h2 x hx hb
    rw [hq] at h4
    obtain ⟨_, o2, ho2, _⟩ := hp.e j hj
    have hl2 : j < ops.size := (Array.getElem?_eq_some_iff.1 ho2).1
    rw [getD_in (by rw [h.1]; exact hl2) false true, h.2 j hl2, List.contains_iff_mem.2 hj] at h4
    simp at h4
theorem Left.some {E T : List Nat} {l : Array Bool} (h : Left ops E T l) (hp : InsP md ops E T) {j : Nat} (hj : j ∈ E) : j ∈ Region.ready md ops l := by
  obtain ⟨_, o, ho, h3⟩ := hp.e j hj
  have hl2 : j < ops.size := (Array.getElem?_eq_some_iff.1 ho).1
  refine mem_ready.2 ⟨by rw [h.2 j hl2, List.contains_iff_mem.2 hj]; simp, o, ho, fun x hx hb => ?_⟩
  obtain ⟨a, b, c⟩ := h3 x hx hb
  rw [getD_in (by rw [h.1]; exact a) false true, h.2 x.on a]
  simp [b, c]

variable {k e t : TypeId} {R : Value → Option (DataW Unit × List MemPlace)}

/-- the i-th operation puts d i at the key kl i into the map in block B -/
def Ins (P : Program) (ops : Array Oper) (k t : TypeId) (R : Value → Option (DataW Unit × List MemPlace)) (B : Nat) (a : Act) (kl : Nat → Lit) (d : Nat → DataW Unit) (i : Nat) : Prop :=
  ∃ o m x v key val, ops[i]? = some o ∧ o.dst = none ∧ o.guard = none ∧ o.op = Op.insert t m x v ∧ a.eval m = .map (some B) ∧ a.eval x = key ∧ a.eval v = val ∧ keyOf P k key = some (kl i) ∧ ∃ ps, R val = some (d i, ps)

theorem inserts (K : Maps.Keyed P k) (ht : P.underlying t = some (.map k e)) (a : Act) (kl : Nat → Lit) (d : Nat → DataW Unit) (B : Nat) (T : List Nat) (hS : ∀ w w', S w → w.grownBy w' (some B) → S w') (fuel : Nat) :
    ∀ (n : Nat) (E : List Nat) (l : Array Bool) (w : World) (c : Nat) (D : DataW Unit), E.length = n → E.Nodup → InsP md ops E T → Left ops E T l → (∀ i ∈ E, Ins P ops k t R B a kl d i) →
      (∀ i ∈ E, ∀ j ∈ E, i ≠ j → kl i ≠ kl j) → w.ownsMap P k R B c D → c + n < maxLen → S w →
      (∀ (w' : World) (D' : DataW Unit), S w' → w.grownBy w' (some B) → w'.ownsMap P k R B (c + n) D' → (∀ i ∈ E, Maps.has D' (kl i) = true ∧ ∀ z, D'.atKey (kl i) z = d i) →
        (∀ q, (∀ i ∈ E, q ≠ kl i) → Maps.has D' q = Maps.has D q ∧ ∀ z, D'.atKey q z = D.atKey q z) → wpAnyH P md ops Q S fuel (allBut ops T) a w') →
      wpAnyH P md ops Q S (fuel + n) l a w := by
  intro n
  induction n with
  | zero =>
    intro E l w c D hn _ _ hL _ _ hown _ hSw hfin
    obtain rfl : E = [] := List.eq_nil_of_length_eq_zero hn
    rw [hL.nil]
    exact hfin w D hSw (World.grownBy.refl _ _) hown (fun i hi => absurd hi List.not_mem_nil) (fun q _ => ⟨rfl, fun _ => rfl⟩)
  | succ n ih =>
    intro E l w c D hn hd hp hL hI hne hown hc hSw hfin
    obtain ⟨j, hj⟩ : ∃ j, j ∈ E := by
      cases E with
      | nil => simp at hn
      | cons x _ => exact ⟨x, List.mem_cons_self⟩
    refine ⟨fun h => ?_, fun i hi => ?_⟩
    · have := hL.some hp hj
      rw [h] at this
      exact absurd this List.not_mem_nil
    · have hiE := hL.one hp hj hi
      obtain ⟨o, m, x, v, key, val, ho, hdst, hgu, hop, hm, hx, hval, hkey, ps, hv⟩ := hI i hiE
      refine wpOp_step ho fun K' hK => ?_
      have hwant : Region.wanted o (yielded ops a.tmps) = true := by simp [Region.wanted, hgu]
      rw [if_pos hwant]
      obtain ⟨w1, hrun, hown1, hg1⟩ := hown.update K ht (by omega) hkey hv
      have hput : a.put o.dst undef = a := by rw [hdst]; rfl
      unfold Oper.wp
      simp [execOp, hop, hm, hx, hval, hrun, Result.andThen]
      simp only [Oper.upon]
      rw [hput]
      refine hK a w1 ⟨hS _ _ hSw hg1, ?_⟩
      have hmem : ∀ q ∈ E.erase i, q ∈ E ∧ q ≠ i := fun q hq => ⟨List.mem_of_mem_erase hq, fun z => by subst z; exact absurd hq (List.Nodup.not_mem_erase hd)⟩
      have hkl : WideAt.IsKeyLit (kl i) := K.key hkey
      refine ih (E.erase i) _ w1 (c + 1) (D.put (kl i) (d i)) (by rw [List.length_erase_of_mem hiE, hn]; rfl) (hd.erase _) (hp.erase i) (hL.take hd hiE (hp.e i hiE).1) (fun q hq => hI q (hmem q hq).1)
        (fun p hp q hq => hne p (hmem p hp).1 q (hmem q hq).1) hown1 (by omega) (hS _ _ hSw hg1) (fun w' D' hS' hg' hown' hat hoth => ?_)
      refine hfin w' D' hS' (hg1.trans hg') (by rw [show c + (n + 1) = c + 1 + n by omega]; exact hown') (fun q hq => ?_) (fun q hq => ?_)
      · by_cases z : q = i
        · subst z
          obtain ⟨o1, o2⟩ := hoth (kl q) (fun p hp => hne q hiE p (hmem p hp).1 (Ne.symm (hmem p hp).2))
          exact ⟨o1.trans (Maps.has_put_same hown.isMap hkl _), fun y => (o2 y).trans (Maps.atKey_put_same hown.isMap hkl _ _)⟩
        · exact hat q ((List.mem_erase_of_ne z).2 hq)
      · obtain ⟨o1, o2⟩ := hoth q (fun p hp => hq p (hmem p hp).1)
        have z : q ≠ kl i := hq i hiE
        exact ⟨o1.trans (Maps.has_put_other z _), fun y => (o2 y).trans (Maps.atKey_put_other z _ _)⟩
end

end Go.Proofs.Ytnomceopmjlbhaa
