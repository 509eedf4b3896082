/-
  A region that draws its order, and in which calls that make memory stand beside variables that the region makes ('a, b, c := f(..), g(..), h(..)' into arrays or structs): some operations, in whatever order they come up, each doing what is said of it in every world that meets S; behind them all, ONE goal: their values, and that no two of them point to one block. No program shows in it.
-/
import Derived.Test.YthfbdnhhmnehaaaRows
import Derived.WalkKit
import Derived.Below
import Derived.OrdersHeld
import Derived.RegionTactic
import Derived.Deep.RegionHeld
import Derived.Test.YthfbdnhhmnehaaaLay
namespace Go.Proofs.Ythfbdnhhmnehaaa
open Go Go.RowKit

/-- v, if it is a pointer, points to what was made since w; to what is there in w -/
def FreshV (v : Value) (w : World) : Prop := ∀ p, v = .pointer (some p) → w.heap.size ≤ p.block
def OldV (v : Value) (w : World) : Prop := ∀ p, v = .pointer (some p) → p.block < w.heap.size
/-- two values don't point to one block -/
def ApartV (u v : Value) : Prop := ∀ p q, u = .pointer (some p) → v = .pointer (some q) → p.block ≠ q.block
theorem apart_of {u v : Value} {w : World} (h : OldV u w) (h2 : FreshV v w) : ApartV u v := fun p q hp hq e => by
  have := h p hp
  have := h2 q hq
  omega
theorem ApartV.symm {u v : Value} (h : ApartV u v) : ApartV v u := fun p q hp hq e => h q p hq hp e.symm

section
variable {P : Program} {ops : Array Oper} {Q : Exit → Act → World → Prop} {md : Region.Mode} {S : World → Prop}

/-- in state a, in every world that meets S, operation o leaves a value of which R tells, and what was there as it was -/
def Does (P : Program) (ops : Array Oper) (Q : Exit → Act → World → Prop) (S : World → Prop) (R : Value → World → Prop) (o : Oper) (a : Act) : Prop :=
  ∀ (K : Act → World → Prop) (w : World), S w → (∀ a' v w', a' = a.put o.dst v → S w' → Below w.heap.size w w' → R v w' → FreshV v w → K a' w') →
    if Region.wanted o (yielded ops a.tmps) = true then Oper.wp P o a w K Q else K (a.put o.dst undef) w

theorem Does.put {R : Value → World → Prop} {o oj : Oper} {a : Act} (h : Does P ops Q S R o a) (hap : o.apart ops oj = true) (hs : ∀ cs b, o.op ≠ .select cs b)
    (hQ : ∀ c a d u w, Q (.panic c) a w → Q (.panic c) (a.put d u) w) (u : Value) : Does P ops Q S R o (a.put oj.dst u) := by
  obtain ⟨h1, h2, h3⟩ := Oper.apart_spec hap
  intro K w hS hK
  have g := h (fun a' w' => K (a'.put oj.dst u) w') w hS (fun a' v w' e hS' hb hR hF => by
    subst e
    exact hK _ v w' (Act.put_comm a v u h2) hS' hb hR hF)
  rw [wanted_put o a oj.dst u h3]
  split
  · rename_i hw
    rw [if_pos hw] at g
    unfold Oper.wp at *
    rw [execOp_put o hs a oj.dst u h3]
    generalize (execOp a.eval o).run P w = r at *
    cases r with
    | ok n w' =>
      cases n <;> simp only [Oper.upon] at g ⊢
      case value x => rw [← Act.put_comm a x u h2]; exact g
      case skip => rw [← Act.put_comm a undef u h2]; exact g
      case defer d =>
        have e := Act.put_defers a oj.dst u d
        rw [e, ← Act.put_comm _ undef u h2]
        exact g
      case enter f args =>
        refine Calls.mono g fun e w'' he => ?_
        cases e with
        | returned x => show K ((a.put oj.dst u).put o.dst x) w''; rw [← Act.put_comm a x u h2]; exact he
        | panicked c => exact hQ _ _ _ _ _ he
        | outgrown => exact he
      case row row args => exact Rows.mono g fun x w'' he => by rw [← Act.put_comm a x u h2]; exact he
    | halt x w' =>
      cases x <;> simp only [Oper.upon] at g ⊢
      case panic x => exact hQ _ _ _ _ _ g
  · rename_i hw
    rw [if_neg hw] at g
    rw [← Act.put_comm a undef u h2]
    exact g

/-- the marks and the values of a list of operations -/
def setAll (l : Array Bool) : List (Nat × Option Tmp) → Array Bool
  | [] => l
  | e :: t => setAll (l.setIfInBounds e.1 true) t
def putAll (v : Nat → Value) (a : Act) : List (Nat × Option Tmp) → Act
  | [] => a
  | e :: t => putAll v (a.put e.2 (v e.1)) t
theorem putAll_congr {v v' : Nat → Value} : ∀ (E : List (Nat × Option Tmp)) (a : Act), (∀ e ∈ E, v e.1 = v' e.1) → putAll v a E = putAll v' a E
  | [], _, _ => rfl
  | e :: t, a, h => by
    unfold putAll
    rw [h e List.mem_cons_self]
    exact putAll_congr t _ fun x hx => h x (List.mem_cons_of_mem _ hx)
theorem putAll_erase {v : Nat → Value} {j : Nat × Option Tmp} : ∀ (E : List (Nat × Option Tmp)) (a : Act), j ∈ E → (∀ e ∈ E, e ≠ j → ∀ d, e.2 = some d → j.2 ≠ some d) → putAll v a E = putAll v (a.put j.2 (v j.1)) (E.erase j)
  | [], _, h, _ => absurd h List.not_mem_nil
  | e :: t, a, h, hd => by
    by_cases q : e = j
    · subst q
      rw [List.erase_cons_head]
      rfl
    · rw [List.erase_cons_tail (by simpa using q)]
      have hj : j ∈ t := by
        rcases List.mem_cons.1 h with z | z
        · exact absurd z.symm q
        · exact z
      show putAll v (a.put e.2 (v e.1)) t = putAll v ((a.put j.2 (v j.1)).put e.2 (v e.1)) (t.erase j)
      rw [putAll_erase t _ hj fun x hx => hd x (List.mem_cons_of_mem _ hx), Act.put_comm a _ _ (hd e List.mem_cons_self q)]
theorem setAll_erase {j : Nat × Option Tmp} : ∀ (E : List (Nat × Option Tmp)) (l : Array Bool), j ∈ E → (∀ e ∈ E, e ≠ j → e.1 ≠ j.1) → setAll l E = setAll (l.setIfInBounds j.1 true) (E.erase j)
  | [], _, h, _ => absurd h List.not_mem_nil
  | e :: t, l, h, hd => by
    by_cases q : e = j
    · subst q
      rw [List.erase_cons_head]
      rfl
    · rw [List.erase_cons_tail (by simpa using q)]
      have hj : j ∈ t := by
        rcases List.mem_cons.1 h with z | z
        · exact absurd z.symm q
        · exact z
      show setAll (l.setIfInBounds e.1 true) t = setAll ((l.setIfInBounds j.1 true).setIfInBounds e.1 true) (t.erase j)
      rw [setAll_erase t _ hj fun x hx => hd x (List.mem_cons_of_mem _ hx), Array.setIfInBounds_comm _ _ (hd e List.mem_cons_self q)]

/-- in whatever order they come up, only these do, till all have -/
def closedB (md : Region.Mode) (ops : Array Oper) : Nat → List (Nat × Option Tmp) → Array Bool → Bool
  | 0, _, _ => true
  | n + 1, E, l => !(Region.ready md ops l).isEmpty && (Region.ready md ops l).all fun i => E.any fun e => e.1 == i && closedB md ops n (E.erase e) (l.setIfInBounds i true)
/-- their temporaries are as said, and they are apart from each other -/
def apartB (ops : Array Oper) (E : List (Nat × Option Tmp)) : Bool :=
  E.all fun e => match ops[e.1]? with
    | none => false
    | some o => o.dst == e.2 && E.all fun f => e == f || (e.1 != f.1 && match ops[f.1]? with | none => false | some q => o.apart ops q)
theorem apartB_spec {E : List (Nat × Option Tmp)} (h : apartB ops E = true) {e : Nat × Option Tmp} (he : e ∈ E) :
    ∃ o, ops[e.1]? = some o ∧ o.dst = e.2 ∧ ∀ f ∈ E, e ≠ f → e.1 ≠ f.1 ∧ ∃ q, ops[f.1]? = some q ∧ o.apart ops q = true := by
  have h1 := List.all_eq_true.1 h e he
  cases ho : ops[e.1]? with
  | none => simp [ho] at h1
  | some o =>
    simp only [ho, Bool.and_eq_true, beq_iff_eq, List.all_eq_true, Bool.or_eq_true, bne_iff_ne] at h1
    refine ⟨o, rfl, h1.1, fun f hf hne => ?_⟩
    rcases h1.2 f hf with z | ⟨z1, z2⟩
    · exact absurd z hne
    · refine ⟨z1, ?_⟩
      cases hq : ops[f.1]? with
      | none => simp [hq] at z2
      | some q => rw [hq] at z2; exact ⟨q, rfl, z2⟩
theorem apartB_erase {E : List (Nat × Option Tmp)} (h : apartB ops E = true) (e : Nat × Option Tmp) : apartB ops (E.erase e) = true := by
  refine List.all_eq_true.2 fun x hx => ?_
  have h1 := List.all_eq_true.1 h x (List.mem_of_mem_erase hx)
  cases ho : ops[x.1]? with
  | none => simp [ho] at h1
  | some o =>
    simp only [ho, Bool.and_eq_true] at h1 ⊢
    exact ⟨h1.1, List.all_eq_true.2 fun y hy => List.all_eq_true.1 h1.2 y (List.mem_of_mem_erase hy)⟩

theorem held_batch {R : Nat → Value → World → Prop} (hs : Region.noSelect ops = true) (hQ : ∀ c a d u w, Q (.panic c) a w → Q (.panic c) (a.put d u) w)
    (hR : ∀ i v w w', R i v w → Below w.heap.size w w' → R i v w') (hO : ∀ i v w, R i v w → OldV v w) (fuel : Nat) :
    ∀ (n : Nat) (E : List (Nat × Option Tmp)) (listed : Array Bool) (a : Act) (w : World), E.length = n → E.Nodup → closedB md ops n E listed = true → apartB ops E = true →
      (∀ e ∈ E, ∀ o, ops[e.1]? = some o → Does P ops Q S (R e.1) o a) → S w →
      (∀ (v : Nat → Value) (w' : World), S w' → Below w.heap.size w w' → (∀ e ∈ E, R e.1 (v e.1) w' ∧ FreshV (v e.1) w) → (∀ e ∈ E, ∀ f ∈ E, e ≠ f → ApartV (v e.1) (v f.1)) →
        wpAnyH P md ops Q S fuel (setAll listed E) (putAll v a E) w') →
      wpAnyH P md ops Q S (fuel + n) listed a w := by
  intro n
  induction n with
  | zero =>
    intro E listed a w hn _ _ _ _ hS hfin
    obtain rfl : E = [] := List.eq_nil_of_length_eq_zero hn
    exact hfin (fun _ => undef) w hS (Below.refl _ _) (fun e he => absurd he List.not_mem_nil) (fun e he => absurd he List.not_mem_nil)
  | succ n ih =>
    intro E listed a w hn hd hc hap hdo hS hfin
    have hc1 : (Region.ready md ops listed).isEmpty = false ∧ ∀ i ∈ Region.ready md ops listed, ∃ e ∈ E, e.1 = i ∧ closedB md ops n (E.erase e) (listed.setIfInBounds i true) = true := by
      simp only [closedB, Bool.and_eq_true, Bool.not_eq_true', List.all_eq_true, List.any_eq_true, beq_iff_eq] at hc
      exact ⟨hc.1, fun i hi => by obtain ⟨e, he, h1, h2⟩ := hc.2 i hi; exact ⟨e, he, h1, h2⟩⟩
    refine ⟨fun h => by rw [h] at hc1; simp at hc1, fun i hi => ?_⟩
    obtain ⟨e, he, rfl, hcl⟩ := hc1.2 i hi
    obtain ⟨o, ho, hdst, hne⟩ := apartB_spec hap he
    refine wpOp_step ho fun K' hK => ?_
    refine hdo e he o ho K' w hS fun a' v1 w1 ea hS1 hb1 hR1 hF1 => ?_
    subst ea
    refine hK _ _ ⟨hS1, ?_⟩
    have hO1 := hO _ _ _ hR1
    have hmem : ∀ f ∈ E.erase e, f ∈ E ∧ f ≠ e := fun f hf => ⟨List.mem_of_mem_erase hf, fun q => by subst q; exact absurd hf (List.Nodup.not_mem_erase hd)⟩
    refine ih (E.erase e) (listed.setIfInBounds e.1 true) (a.put o.dst v1) w1 (by rw [List.length_erase_of_mem he, hn]; rfl) (hd.erase _) hcl (apartB_erase hap e) (fun f hf q hq => ?_) hS1 (fun v w' hS' hb' hv hA => ?_)
    · obtain ⟨hf1, hf2⟩ := hmem f hf
      obtain ⟨q', hq', _, hne'⟩ := apartB_spec hap hf1
      rw [hq] at hq'
      obtain rfl := Option.some.inj hq'
      obtain ⟨_, o', ho', hap'⟩ := hne' e he hf2
      rw [ho] at ho'
      obtain rfl := Option.some.inj ho'
      exact (hdo f hf1 q hq).put hap' (fun cs b => Region.noSelect_spec hs _ _ cs b hq) hQ v1
    · have hvj : ∀ f ∈ E.erase e, (fun i => if i = e.1 then v1 else v i) f.1 = v f.1 := fun f hf => by
        obtain ⟨hf1, hf2⟩ := hmem f hf
        exact if_neg (Ne.symm (hne f hf1 (Ne.symm hf2)).1)
      have g := hfin (fun i => if i = e.1 then v1 else v i) w' hS' (hb1.trans (hb'.mono hb1.size)) (fun f hf => ?_) (fun f hf x hx hfx => ?_)
      · rw [setAll_erase E listed he (fun x hx hxe => Ne.symm (hne x hx (Ne.symm hxe)).1), putAll_erase E a he (fun x hx hxe d hxd => ?_)] at g
        · rw [if_pos rfl, ← hdst, putAll_congr (v' := v) _ _ hvj] at g
          exact g
        · obtain ⟨q, hq, hqd, hq2⟩ := apartB_spec hap hx
          obtain ⟨_, o', ho', hap'⟩ := hq2 e he hxe
          rw [ho] at ho'
          obtain rfl := Option.some.inj ho'
          rw [← hdst]
          exact (Oper.apart_spec hap').2.1 d (hqd.trans hxd)
      · by_cases q : f = e
        · subst q
          simp only [if_true]
          exact ⟨hR _ _ _ _ hR1 hb', hF1⟩
        · have hfe : f ∈ E.erase e := (List.mem_erase_of_ne q).2 hf
          have hz := hvj f hfe
          simp only at hz ⊢
          rw [hz]
          exact ⟨(hv f hfe).1, fun p hp => Nat.le_trans hb1.size ((hv f hfe).2 p hp)⟩
      · by_cases q : f = e
        · subst q
          have hxe : x ∈ E.erase f := (List.mem_erase_of_ne (Ne.symm hfx)).2 hx
          have hz := hvj x hxe
          simp only [if_true] at hz ⊢
          rw [hz]
          exact apart_of hO1 (hv x hxe).2
        · have hfe : f ∈ E.erase e := (List.mem_erase_of_ne q).2 hf
          by_cases q2 : x = e
          · subst q2
            have hz := hvj f hfe
            simp only [if_true] at hz ⊢
            rw [hz]
            exact (apart_of hO1 (hv f hfe).2).symm
          · have hxe : x ∈ E.erase e := (List.mem_erase_of_ne q2).2 hx
            have hz := hvj f hfe
            have hz2 := hvj x hxe
            simp only at hz hz2 ⊢
            rw [hz, hz2]
            exact hA f hfe x hxe hfx
theorem all_do_nil {R : Nat → Value → World → Prop} {a : Act} : ∀ e ∈ ([] : List (Nat × Option Tmp)), ∀ o, ops[e.1]? = some o → Does P ops Q S (R e.1) o a := fun _ he => absurd he List.not_mem_nil
theorem all_do_cons {R : Nat → Value → World → Prop} {a : Act} {i : Nat} {d : Option Tmp} {t : List (Nat × Option Tmp)} {o : Oper} (ho : ops[i]? = some o) (h : Does P ops Q S (R i) o a)
    (ht : ∀ e ∈ t, ∀ o, ops[e.1]? = some o → Does P ops Q S (R e.1) o a) : ∀ e ∈ (i, d) :: t, ∀ o, ops[e.1]? = some o → Does P ops Q S (R e.1) o a := fun e he x hx => by
  rcases List.mem_cons.1 he with rfl | he
  · rw [ho] at hx
    obtain rfl := Option.some.inj hx
    exact h
  · exact ht e he x hx
end

/-- what they leave: a value that is told ahead, or a pointer to a new block of so many cells -/
def RV (vals : Nat → Option Value) (cs : List Value) (i : Nat) (v : Value) (w : World) : Prop :=
  match vals i with
  | some x => v = x
  | none => ∃ p, v = .pointer (some ⟨p, 0, none⟩) ∧ Cells w p cs
theorem rv_keep {vals : Nat → Option Value} {cs : List Value} (i : Nat) (v : Value) (w w' : World) (h : RV vals cs i v w) (hb : Below w.heap.size w w') : RV vals cs i v w' := by
  unfold RV at *
  split at h
  · exact h
  · obtain ⟨p, h1, h2⟩ := h
    exact ⟨p, h1, h2.step hb⟩
theorem rv_old {vals : Nat → Option Value} {cs : List Value} (hv : ∀ i x, vals i = some x → ∀ p, x ≠ .pointer (some p)) (i : Nat) (v : Value) (w : World) (h : RV vals cs i v w) : OldV v w := by
  unfold RV at h
  split at h
  · rename_i x hx
    intro p hp
    exact absurd (h.symm.trans hp) (hv i x hx p)
  · obtain ⟨p, h1, h2⟩ := h
    intro q hq
    rw [h1] at hq
    cases hq
    exact h2.lt
theorem Lay.out2 {w : World} {L : List (List Value)} {W : World} {p : Nat} (h : Lay w L W) (hp : w.heap.size + L.length ≤ p) (v0 v1 : Value) : Lay w L ((W.setCell ⟨p, 0, none⟩ v0).setCell ⟨p, 1, none⟩ v1) := ((h).other hp v0).other hp v1
theorem Cells.out2 {W : World} {b p : Nat} {L : List Value} (h : Cells W b L) (hp : p ≠ b) (v0 v1 : Value) : Cells ((W.setCell ⟨p, 0, none⟩ v0).setCell ⟨p, 1, none⟩ v1) b L := ((h).other hp v0).other hp v1
theorem Cells.put2 {W : World} {p : Nat} {a0 a1 : Value} (h : Cells W p [a0, a1]) (v0 v1 : Value) : Cells ((W.setCell ⟨p, 0, none⟩ v0).setCell ⟨p, 1, none⟩ v1) p [v0, v1] := ((h).set (j := 0) (by simp) v0).set (j := 1) (by simp) v1
theorem Lay.out5 {w : World} {L : List (List Value)} {W : World} {p : Nat} (h : Lay w L W) (hp : w.heap.size + L.length ≤ p) (v0 v1 v2 v3 v4 : Value) : Lay w L (((((W.setCell ⟨p, 0, none⟩ v0).setCell ⟨p, 1, none⟩ v1).setCell ⟨p, 2, none⟩ v2).setCell ⟨p, 3, none⟩ v3).setCell ⟨p, 4, none⟩ v4) := (((((h).other hp v0).other hp v1).other hp v2).other hp v3).other hp v4
theorem Cells.out5 {W : World} {b p : Nat} {L : List Value} (h : Cells W b L) (hp : p ≠ b) (v0 v1 v2 v3 v4 : Value) : Cells (((((W.setCell ⟨p, 0, none⟩ v0).setCell ⟨p, 1, none⟩ v1).setCell ⟨p, 2, none⟩ v2).setCell ⟨p, 3, none⟩ v3).setCell ⟨p, 4, none⟩ v4) b L := (((((h).other hp v0).other hp v1).other hp v2).other hp v3).other hp v4
theorem Cells.put5 {W : World} {p : Nat} {a0 a1 a2 a3 a4 : Value} (h : Cells W p [a0, a1, a2, a3, a4]) (v0 v1 v2 v3 v4 : Value) : Cells (((((W.setCell ⟨p, 0, none⟩ v0).setCell ⟨p, 1, none⟩ v1).setCell ⟨p, 2, none⟩ v2).setCell ⟨p, 3, none⟩ v3).setCell ⟨p, 4, none⟩ v4) p [v0, v1, v2, v3, v4] := (((((h).set (j := 0) (by simp) v0).set (j := 1) (by simp) v1).set (j := 2) (by simp) v2).set (j := 3) (by simp) v3).set (j := 4) (by simp) v4
theorem Lay.out10 {w : World} {L : List (List Value)} {W : World} {p : Nat} (h : Lay w L W) (hp : w.heap.size + L.length ≤ p) (v0 v1 v2 v3 v4 v5 v6 v7 v8 v9 : Value) : Lay w L ((((((((((W.setCell ⟨p, 0, none⟩ v0).setCell ⟨p, 1, none⟩ v1).setCell ⟨p, 2, none⟩ v2).setCell ⟨p, 3, none⟩ v3).setCell ⟨p, 4, none⟩ v4).setCell ⟨p, 5, none⟩ v5).setCell ⟨p, 6, none⟩ v6).setCell ⟨p, 7, none⟩ v7).setCell ⟨p, 8, none⟩ v8).setCell ⟨p, 9, none⟩ v9) := ((((((((((h).other hp v0).other hp v1).other hp v2).other hp v3).other hp v4).other hp v5).other hp v6).other hp v7).other hp v8).other hp v9
theorem Cells.out10 {W : World} {b p : Nat} {L : List Value} (h : Cells W b L) (hp : p ≠ b) (v0 v1 v2 v3 v4 v5 v6 v7 v8 v9 : Value) : Cells ((((((((((W.setCell ⟨p, 0, none⟩ v0).setCell ⟨p, 1, none⟩ v1).setCell ⟨p, 2, none⟩ v2).setCell ⟨p, 3, none⟩ v3).setCell ⟨p, 4, none⟩ v4).setCell ⟨p, 5, none⟩ v5).setCell ⟨p, 6, none⟩ v6).setCell ⟨p, 7, none⟩ v7).setCell ⟨p, 8, none⟩ v8).setCell ⟨p, 9, none⟩ v9) b L := ((((((((((h).other hp v0).other hp v1).other hp v2).other hp v3).other hp v4).other hp v5).other hp v6).other hp v7).other hp v8).other hp v9
theorem Cells.put10 {W : World} {p : Nat} {a0 a1 a2 a3 a4 a5 a6 a7 a8 a9 : Value} (h : Cells W p [a0, a1, a2, a3, a4, a5, a6, a7, a8, a9]) (v0 v1 v2 v3 v4 v5 v6 v7 v8 v9 : Value) : Cells ((((((((((W.setCell ⟨p, 0, none⟩ v0).setCell ⟨p, 1, none⟩ v1).setCell ⟨p, 2, none⟩ v2).setCell ⟨p, 3, none⟩ v3).setCell ⟨p, 4, none⟩ v4).setCell ⟨p, 5, none⟩ v5).setCell ⟨p, 6, none⟩ v6).setCell ⟨p, 7, none⟩ v7).setCell ⟨p, 8, none⟩ v8).setCell ⟨p, 9, none⟩ v9) p [v0, v1, v2, v3, v4, v5, v6, v7, v8, v9] := ((((((((((h).set (j := 0) (by simp) v0).set (j := 1) (by simp) v1).set (j := 2) (by simp) v2).set (j := 3) (by simp) v3).set (j := 4) (by simp) v4).set (j := 5) (by simp) v5).set (j := 6) (by simp) v6).set (j := 7) (by simp) v7).set (j := 8) (by simp) v8).set (j := 9) (by simp) v9

end Go.Proofs.Ythfbdnhhmnehaaa
