/-
  The document's Fails: a gate and what it names, each gate once, what is known kept in a map.
-/
import Derived.Test.YtacophekhknbpaaGatFls
import Derived.Test.YtacophekhknbpaaOpen
import Derived.Maps.Own
import Derived.Maps.OwnOps
import Derived.Maps.OwnSet
import Derived.Maps.AppendAt
namespace Go.Proofs.Ytacophekhknbpaa
open Go.RowKit Go.Maps
set_option linter.unusedVariables false

/-- how many of the first so many are known -/
def cntK (K : Nat → Nat) : Nat → Nat
  | 0 => 0
  | m + 1 => cntK K m + if K m = 0 then 0 else 1
theorem cntK_le (K : Nat → Nat) (m : Nat) : cntK K m ≤ m := by
  induction m with
  | zero => exact Nat.le_refl _
  | succ m ih =>
    show cntK K m + _ ≤ _
    split <;> omega
theorem cntK_far {K : Nat → Nat} {k m x : Nat} (h : m ≤ k) : cntK (fun j => if j = k then x else K j) m = cntK K m := by
  induction m with
  | zero => rfl
  | succ m ih =>
    show cntK _ m + (if (if m = k then x else K m) = 0 then 0 else 1) = cntK K m + _
    rw [ih (by omega), if_neg (show ¬ m = k by omega)]
theorem cntK_put {K : Nat → Nat} {k m x : Nat} (h : k < m) (h0 : K k = 0) (hx : x ≠ 0) : cntK (fun j => if j = k then x else K j) m = cntK K m + 1 := by
  induction m with
  | zero => omega
  | succ m ih =>
    show cntK _ m + (if (if m = k then x else K m) = 0 then 0 else 1) = cntK K m + _ + 1
    by_cases q : m = k
    · subst q
      rw [cntK_far (Nat.le_refl _), if_pos rfl, if_neg hx, if_pos h0]
    · rw [if_neg q, ih (by omega)]
      omega
theorem keyI_ne {a b : Nat} (h : a ≠ b) : (Lit.int .i64 (a : Int)) ≠ .int .i64 (b : Int) := fun e => h (by injection e with _ e2; omega)

/-- what a gate is kept as -/
def kv (t : Nat → Gt) (p k : Nat) : Nat := if faG t p k then 1 else 2
/-- what is known lies in the map that was made behind world w0 -/
structure Memo (w0 : World) (t : Nat → Gt) (p n : Nat) (K : Nat → Nat) (w : World) : Prop where
  bel : Below w0.heap.size w0 w
  lt : w0.heap.size < w.heap.size
  map : ∃ (J : Nat) (D : DataW Unit), w.ownsMap Try.prog 3 (plainElem Try.prog 3) w0.heap.size J D ∧ J ≤ 2 * cntK K n ∧ ∀ k : Nat, k < n → D.atKey (.int .i64 k) (.lit (.int .i64 0)) = .lit (.int .i64 (K k : Nat))
  ok : ∀ k, k < n → K k ≠ 0 → K k = kv t p k
theorem grown_of {w w' : World} {row : Option Nat} (h : Below w.heap.size w w') : w.grownBy w' row := ⟨h.os, h.tape, h.output, h.size, fun k hk _ => h.block k hk⟩
theorem Memo.alloc {w0 w : World} {t : Nat → Gt} {p n : Nat} {K : Nat → Nat} (h : Memo w0 t p n K w) (x : Obj) : Memo w0 t p n K (w.alloc x) := by
  obtain ⟨J, D, h1, h2⟩ := h.map
  exact ⟨h.bel.alloc h.bel.size _, Nat.lt_of_lt_of_le h.lt (by simp), ⟨J, D, h1.alloc x, h2⟩, h.ok⟩
theorem Memo.drewN {w0 w : World} {t : Nat → Gt} {p n : Nat} {K : Nat → Nat} (h : Memo w0 t p n K w) (d : Nat) : Memo w0 t p n K (w.drewN d) := by
  obtain ⟨J, D, h1, h2⟩ := h.map
  exact ⟨gbelow_drew h.bel d, h.lt, ⟨J, D, h1, h2⟩, h.ok⟩
theorem lawI : Keyed Try.prog 3 := int_keyed Try.underlying3
theorem zeroI (w : World) : (zeroValue 3).run Try.prog w = .ok (.int .i64 0) w := by kernel_rfl

/-- what a call of the document's failing tells, and what it leaves -/
def FailsC (w0 : World) (a : Option Addr) (n c : Nat) (t : Nat → Gt) (p k : Nat) : Prop := ∀ (K : Nat → Nat) (w : World), Memo w0 t p n K w → Calls Try.prog 47 #[.slice a n c, .int .i64 k, .int .u16 p, .map (some w0.heap.size)] w fun e w' => e = .returned (.int .i64 (kv t p k : Nat)) ∧ (∃ K', Memo w0 t p n K' w' ∧ ∀ j, k < j → K' j = K j) ∧ w.grownBy w' (some w0.heap.size)

set_option maxHeartbeats 2000000 in
set_option maxRecDepth 100000 in
theorem failing_known (w0 : World) (a : Option Addr) (n c : Nat) (t : Nat → Gt) (p k : Nat) (hk : k < n) (hn : n ≤ 30) (K : Nat → Nat) (w : World) (M0 : Memo w0 t p n K w) (h0 : K k ≠ 0) :
    Calls Try.prog 47 #[.slice a n c, .int .i64 k, .int .u16 p, .map (some w0.heap.size)] w fun e w' => e = .returned (.int .i64 (kv t p k : Nat)) ∧ w' = w := by
  obtain ⟨J, D, hown, hJ, hat⟩ := M0.map
  have OJ : Hid (w.ownsMap Try.prog 3 (plainElem Try.prog 3) w0.heap.size J D) := hown
  have HKey : Hid (keyOf Try.prog 3 (.int .i64 (k : Int)) = some (.int .i64 (k : Int))) := keyOf_int_mk Try.underlying3 (WalkArith.wf_i64 (by omega))
  obtain ⟨V, hV⟩ : ∃ V, kv t p k = V := ⟨_, rfl⟩
  rw [hV]
  have HV : Hid (∀ x : Int, D.atKey (.int .i64 k) (.lit (.int .i64 0)) = .lit (.int .i64 x) → x = (V : Nat)) := fun x hx => by
    rw [hat k hk, M0.ok k hk h0, hV] at hx
    injection hx with e
    injection e with _ e
    exact e.symm
  have v1 : (0 : Int) < (V : Int) := by
    unfold kv at hV
    split at hV <;> omega
  clear hown hJ hat M0 h0 hV
  go_enter Try.func47, Try.ntmps47
  go_wp2_with (first
    | (at_lookup; refine wpList_lookup_own_int _ rfl _ _ 64 rfl 3 3 .i64 lawI Try.underlying64 Try.underlying3 (zeroI _) w0.heap.size J _ rfl OJ.out _ _ rfl HKey.out ?_; intro cv hat hwc; obtain rfl := HV.out _ hat; clear hat hwc))
  go_ret
  exact ⟨rfl, rfl⟩

theorem memo_end {w0 : World} {t : Nat → Gt} {p n k : Nat} {K : Nat → Nat} {w w' : World} {J : Nat} {D : DataW Unit} (h : Memo w0 t p n K w) (hk : k < n) (h0 : K k = 0) (hg : w.grownBy w' (some w0.heap.size))
    (ho : w'.ownsMap Try.prog 3 (plainElem Try.prog 3) w0.heap.size J D) (hJ : J ≤ 2 * cntK K n + 2) (hat : ∀ j : Nat, j < n → D.atKey (.int .i64 j) (.lit (.int .i64 0)) = .lit (.int .i64 ((if j = k then kv t p k else K j : Nat)))) : Memo w0 t p n (fun j => if j = k then kv t p k else K j) w' := by
  have hv : kv t p k ≠ 0 := by
    unfold kv
    split <;> omega
  refine ⟨h.bel.grown hg h.bel.size (fun j hj => by cases hj; exact Nat.le_refl _), Nat.lt_of_lt_of_le h.lt hg.size, ⟨J, D, ho, ?_, hat⟩, fun j hj hne => ?_⟩
  · rw [cntK_put hk h0 hv]
    omega
  · show (if j = k then kv t p k else K j) = kv t p j
    by_cases e : j = k
    · rw [if_pos e, e]
    · have hne2 : (if j = k then kv t p k else K j) ≠ 0 := hne
      rw [if_neg e] at hne2 ⊢
      exact h.ok j hj hne2

theorem gat_drawn (w : World) (k v : Int) (a : Option Addr) (n c : Nat) (f : Nat → Int) (ty : TypeId) (d : Nat) : GAt ((w.alloc (.cells #[.int .i64 k, .int .i64 v, .slice a n c] ty)).drewN d) w.heap.size 0 ⟨k, v, a, n, c, f⟩ := by
  have h := (cells_new w #[.int .i64 k, .int .i64 v, .slice a n c] ty)
  exact ⟨h.cell 0 _ rfl, h.cell 1 _ rfl, h.cell 2 _ rfl⟩
theorem GAt.grown {w w' : World} {b o : Nat} {g : Gt} {row : Nat} (h : GAt w b o g) (hg : w.grownBy w' (some row)) (hne : b ≠ row) : GAt w' b o g :=
  ⟨hg.cell h.hk (by simpa using hne), hg.cell h.hv (by simpa using hne), hg.cell h.hs (by simpa using hne)⟩

set_option maxHeartbeats 4000000 in
set_option maxRecDepth 100000 in
theorem failing_new (w0 : World) (a : Option Addr) (n c : Nat) (t : Nat → Gt) (p k : Nat) (hR : RowG w0 a n t) (hc : chG t n = 0) (hp : p < 65536) (hk : k < n) (IH : ∀ m, m < k → FailsC w0 a n c t p m) (K : Nat → Nat) (w : World) (M0 : Memo w0 t p n K w) (h0 : K k = 0) :
    Calls Try.prog 47 #[.slice a n c, .int .i64 k, .int .u16 p, .map (some w0.heap.size)] w fun e w' => e = .returned (.int .i64 (kv t p k : Nat)) ∧ (∃ K', Memo w0 t p n K' w' ∧ ∀ j, k < j → K' j = K j) ∧ w.grownBy w' (some w0.heap.size) := by
  obtain ⟨n1, n2, hg⟩ := chG_zero hc
  obtain ⟨g1, g2, g3⟩ := geE_zero (hg k hk)
  obtain ⟨J, D, hown, hJ, hat⟩ := M0.map
  have OJ : Hid (w.ownsMap Try.prog 3 (plainElem Try.prog 3) w0.heap.size J D) := hown
  have HKey : Hid (keyOf Try.prog 3 (.int .i64 (k : Int)) = some (.int .i64 (k : Int))) := keyOf_int_mk Try.underlying3 (WalkArith.wf_i64 (by omega))
  have HV : Hid (∀ x : Int, D.atKey (.int .i64 k) (.lit (.int .i64 0)) = .lit (.int .i64 x) → x = 0) := fun x hx => by
    rw [hat k hk, h0] at hx
    injection hx with e
    injection e with _ e
    exact e.symm
  have HM : Hid (Memo w0 t p n K w) := M0
  have HI : Hid (∀ m, m < k → FailsC w0 a n c t p m) := IH
  have HR : Hid (RowG w0 a n t) := hR
  have HG : Hid (geE (t k) k = 0) := hg k hk
  have HN : Hid (n ≤ 30 ∧ k < n ∧ p < 65536 ∧ K k = 0) := ⟨n2, hk, hp, h0⟩
  have HF : Hid (formV (t k).k (t k).v (t k).n = true ∧ (t k).n ≤ 6 ∧ ∀ j, j < (t k).n → 0 ≤ (t k).of j ∧ (t k).of j < (k : Int)) := ⟨g1, g2, g3⟩
  obtain ⟨b, o, rfl, hb, hcl⟩ := (HR.out.step M0.bel).row (by omega)
  obtain ⟨x0, x1, x2⟩ := hcl k hk
  have y1 : (k : Int) < (n : Int) := by omega
  have y2 : ((t k).n : Int) ≤ 6 := by omega
  clear hown hJ hat M0 h0 hR hc hp IH hg n1 g1 g2 g3 hcl
  generalize hgk : t k = g at HG HF x0 x1 x2 y2
  obtain ⟨ki, gv, ga, gn, gc, gf⟩ := g
  simp only [] at HF x0 x1 x2 y2
  go_enter Try.func47, Try.ntmps47
  go_wp2_with (first
    | (at_lookup; refine wpList_lookup_own_int _ rfl _ _ 64 rfl 3 3 .i64 lawI Try.underlying64 Try.underlying3 (zeroI _) w0.heap.size J _ rfl OJ.out _ _ rfl HKey.out ?_; intro cv hat hwc; obtain rfl := HV.out _ hat; clear hat hwc))
  go_quiet (fail)
  go_wp2_with fail
  have BX : Hid (GAt ((w.alloc (.cells #[.int .i64 ki, .int .i64 gv, .slice ga gn gc] 41)).drewN nq) w.heap.size 0 ⟨ki, gv, ga, gn, gc, gf⟩) := gat_drawn w ki gv ga gn gc gf 41 nq
  have MX : Hid (Memo w0 t p n K ((w.alloc (.cells #[.int .i64 ki, .int .i64 gv, .slice ga gn gc] 41)).drewN nq)) := (HM.out.alloc _).drewN nq
  have GX : Hid (w.grownBy ((w.alloc (.cells #[.int .i64 ki, .int .i64 gv, .slice ga gn gc] 41)).drewN nq) (some w0.heap.size)) := grown_of (gbelow_drew (gbox _ _) nq)
  have LX : Hid (w0.heap.size < w.heap.size) := HM.out.lt
  have HRI : Hid (RI w0 ga gn gf) := by
    have := HR.out.of k hk
    rw [hgk] at this
    exact this
  clear x0 x1 x2 hb OJ HV HM
  go_loopg [10, 32] (gn + 1) (fun g u s wr => ∃ (q : Nat) (K' : Nat → Nat), u = .int .i64 (cntF gf (faG t p) q : Nat) ∧ s = .int .i64 q ∧ gn - q < g ∧ q ≤ gn ∧ Hid (Memo w0 t p n K' wr) ∧ Hid (∀ j, k ≤ j → K' j = K j) ∧ Hid (GAt wr w.heap.size 0 ⟨ki, gv, ga, gn, gc, gf⟩) ∧ Hid (w.grownBy wr (some w0.heap.size)))
  case atStart => exact ⟨0, K, rfl, rfl, by omega, by omega, MX.out, fun _ _ => rfl, BX.out, GX.out⟩
  case round =>
    obtain ⟨q, K', rfl, rfl, hgq, hq, HM, HK, HB, HW⟩ := hrel
    clear MX BX GX
    by_cases hlt : q < gn
    · have z1 : (q : Int) < (gn : Int) := by omega
      obtain ⟨b2, o2, rfl, hb2, hc2⟩ := (HRI.out.step HM.out.bel) (by omega)
      have e0 := hc2 q hlt
      have hx := HF.out.2.2 q hlt
      have HS : Hid (cntF gf (faG t p) (q + 1) = cntF gf (faG t p) q + if faG t p (gf q).toNat then 1 else 0) := rfl
      have HC : Hid (cntF gf (faG t p) q ≤ q) := cntF_le gf (faG t p) q
      obtain ⟨y, hy⟩ : ∃ y : Nat, gf q = (y : Int) := ⟨(gf q).toNat, by omega⟩
      rw [hy] at e0 hx
      have HS2 : Hid (cntF gf (faG t p) (q + 1) = cntF gf (faG t p) q + if faG t p y then 1 else 0) := by
        have := HS.out
        rw [hy, Int.toNat_natCast] at this
        exact this
      have z2 : (cntF gf (faG t p) q : Int) ≤ 6 := by have := HC.out; omega
      have HY : Hid (y < k) := by have := hx.2; show y < k; omega
      have C := HI.out y HY.out K' wr HM.out
      unfold kv at C
      clear hc2 HS hy hx HM
      cases hA : faG t p y
      · have HE3 : Hid (cntF gf (faG t p) (q + 1) = cntF gf (faG t p) q) := by
          have := HS2.out
          rw [hA] at this
          exact this
        rw [hA] at C
        clear HS2 hA
        go_wp2_with fail
        refine C.mono ?_
        rintro e w2 ⟨rfl, ⟨K2, hm2, hk2⟩, hgr⟩
        have M2 : Hid (Memo w0 t p n K2 w2) := hm2
        have Q2 : Hid (∀ j, k ≤ j → K2 j = K j) := fun j hj => (hk2 j (by have := HY.out; omega)).trans (HK.out j hj)
        have X2 : Hid (GAt w2 w.heap.size 0 ⟨ki, gv, some ⟨b2, o2, none⟩, gn, gc, gf⟩) := HB.out.grown hgr (by have := LX.out; omega)
        have W2 : Hid (w.grownBy w2 (some w0.heap.size)) := HW.out.trans hgr
        clear hm2 hk2 hgr C HB HW HK
        go_wp2_with fail
        go_roundg (gn - (q + 1) + 1)
        case measure => omega
        case rel => exact ⟨q + 1, K2, by rw [HE3.out], by go_num, by omega, by omega, M2.out, Q2.out, X2.out, W2.out⟩
      · have HE3 : Hid (cntF gf (faG t p) (q + 1) = cntF gf (faG t p) q + 1) := by
          have := HS2.out
          rw [hA] at this
          exact this
        rw [hA] at C
        clear HS2 hA
        go_wp2_with fail
        refine C.mono ?_
        rintro e w2 ⟨rfl, ⟨K2, hm2, hk2⟩, hgr⟩
        have M2 : Hid (Memo w0 t p n K2 w2) := hm2
        have Q2 : Hid (∀ j, k ≤ j → K2 j = K j) := fun j hj => (hk2 j (by have := HY.out; omega)).trans (HK.out j hj)
        have X2 : Hid (GAt w2 w.heap.size 0 ⟨ki, gv, some ⟨b2, o2, none⟩, gn, gc, gf⟩) := HB.out.grown hgr (by have := LX.out; omega)
        have W2 : Hid (w.grownBy w2 (some w0.heap.size)) := HW.out.trans hgr
        clear hm2 hk2 hgr C HB HW HK
        go_wp2_with fail
        go_roundg (gn - (q + 1) + 1)
        case measure => omega
        case rel => exact ⟨q + 1, K2, by rw [HE3.out]; go_num, by go_num, by omega, by omega, M2.out, Q2.out, X2.out, W2.out⟩
    · have z1 : ¬ (q : Int) < (gn : Int) := by omega
      obtain rfl : q = gn := by omega
      have x0 : wr.cell? ⟨w.heap.size, 0, none⟩ = some (.int .i64 ki) := HB.out.hk
      have x1 : wr.cell? ⟨w.heap.size, 1, none⟩ = some (.int .i64 gv) := HB.out.hv
      have x2 : wr.cell? ⟨w.heap.size, 2, none⟩ = some (.slice ga q gc) := HB.out.hs
      have lx : w.heap.size < wr.heap.size := lt_of_cell x0
      obtain ⟨J2, D2, hown, hJ, hat⟩ := HM.out.map
      have h0 : K' k = 0 := (HK.out k (Nat.le_refl _)).trans HN.out.2.2.2
      have OJ : Hid (wr.ownsMap Try.prog 3 (plainElem Try.prog 3) w0.heap.size J2 D2) := hown
      have HJ : Hid (J2 ≤ 2 * cntK K' n) := hJ
      have HD : Hid (∀ j : Nat, j < n → D2.atKey (.int .i64 j) (.lit (.int .i64 0)) = .lit (.int .i64 (K' j : Nat))) := hat
      have HZ : Hid (K' k = 0) := h0
      have hjm : Hid (J2 < maxLen) := by
        have := cntK_le K' n
        have := HN.out.1
        show J2 < maxLen
        unfold maxLen
        omega
      have hjm2 : Hid (J2 + 1 < maxLen) := by
        have := cntK_le K' n
        have := HN.out.1
        show J2 + 1 < maxLen
        unfold maxLen
        omega
      have C0 : Hid (cntF gf (faG t p) q ≤ q) := cntF_le gf (faG t p) q
      have WAYS : (faG t p k = true ∧ ((ki = 1 ∧ ∃ j : Nat, gv = (j : Int) ∧ j < 8 ∧ bits .and .u16 ((p : Int) / 2 ^ j) 1 = 1) ∨ (ki = 2 ∧ (cntF gf (faG t p) q : Int) = (q : Int)) ∨ (ki = 3 ∧ (0 : Int) < (cntF gf (faG t p) q : Int)) ∨ (ki = 4 ∧ gv ≤ (cntF gf (faG t p) q : Int)))) ∨ (faG t p k = false ∧ ((ki = 1 ∧ ∃ j : Nat, gv = (j : Int) ∧ j < 8 ∧ bits .and .u16 ((p : Int) / 2 ^ j) 1 = 0) ∨ (ki = 2 ∧ ((cntF gf (faG t p) q : Int) == (q : Int)) = false) ∨ (ki = 3 ∧ ¬ (0 : Int) < (cntF gf (faG t p) q : Int)) ∨ (ki = 4 ∧ ¬ gv ≤ (cntF gf (faG t p) q : Int)))) := by
        have e : faG t p k = gateF ⟨ki, gv, ga, q, gc, gf⟩ p (faG t p) := by
          have := faG_eq (t := t) (p := p) (k := k) (by rw [hgk]; exact HG.out)
          rw [hgk] at this
          exact this
        rw [e]
        have h1 := HF.out.1
        have h5 := C0.out
        rcases formV_kinds h1 with ⟨rfl, a1, a2, a3⟩ | ⟨rfl, a1⟩ | ⟨rfl, a1⟩ | ⟨rfl, a1, a2⟩
        · obtain ⟨j, rfl⟩ : ∃ j : Nat, gv = (j : Int) := ⟨gv.toNat, by omega⟩
          have e2 : gateF ⟨1, (j : Int), ga, q, gc, gf⟩ p (faG t p) = p.testBit j := rfl
          rw [e2]
          have hb := gbit_of p j HN.out.2.2.1
          cases hx : p.testBit j
          · rw [hx] at hb
            exact Or.inr ⟨rfl, Or.inl ⟨rfl, j, rfl, by omega, hb⟩⟩
          · rw [hx] at hb
            exact Or.inl ⟨rfl, Or.inl ⟨rfl, j, rfl, by omega, hb⟩⟩
        · have e2 : gateF ⟨2, gv, ga, q, gc, gf⟩ p (faG t p) = decide ((q : Int) ≤ (cntF gf (faG t p) q : Int)) := rfl
          rw [e2]
          by_cases hx : (cntF gf (faG t p) q : Int) = (q : Int)
          · exact Or.inl ⟨decide_eq_true (by omega), Or.inr (Or.inl ⟨rfl, hx⟩)⟩
          · exact Or.inr ⟨decide_eq_false (by omega), Or.inr (Or.inl ⟨rfl, by simpa using hx⟩)⟩
        · have e2 : gateF ⟨3, gv, ga, q, gc, gf⟩ p (faG t p) = decide ((1 : Int) ≤ (cntF gf (faG t p) q : Int)) := rfl
          rw [e2]
          by_cases hx : (0 : Int) < (cntF gf (faG t p) q : Int)
          · exact Or.inl ⟨decide_eq_true (by omega), Or.inr (Or.inr (Or.inl ⟨rfl, hx⟩))⟩
          · exact Or.inr ⟨decide_eq_false (by omega), Or.inr (Or.inr (Or.inl ⟨rfl, hx⟩))⟩
        · have e2 : gateF ⟨4, gv, ga, q, gc, gf⟩ p (faG t p) = decide (gv ≤ (cntF gf (faG t p) q : Int)) := rfl
          rw [e2]
          by_cases hx : gv ≤ (cntF gf (faG t p) q : Int)
          · exact Or.inl ⟨decide_eq_true hx, Or.inr (Or.inr (Or.inr ⟨rfl, hx⟩))⟩
          · exact Or.inr ⟨decide_eq_false hx, Or.inr (Or.inr (Or.inr ⟨rfl, hx⟩))⟩
      have P1 : Hid (IsMap D2) := OJ.out.isMap
      have HV1 : Hid (∀ x : Int, (D2.put (.int .i64 k) (.lit (.int .i64 2))).atKey (.int .i64 k) (.lit (.int .i64 0)) = .lit (.int .i64 x) → x = 2) := fun x hx => by
        rw [atKey_put_same P1.out (show WideAt.IsKeyLit (.int .i64 (k : Int)) from trivial)] at hx
        injection hx with e
        injection e with _ e
        exact e.symm
      have HV2 : Hid (∀ x : Int, ((D2.put (.int .i64 k) (.lit (.int .i64 2))).put (.int .i64 k) (.lit (.int .i64 1))).atKey (.int .i64 k) (.lit (.int .i64 0)) = .lit (.int .i64 x) → x = 1) := fun x hx => by
        rw [atKey_put_same (P1.out.put _ _) (show WideAt.IsKeyLit (.int .i64 (k : Int)) from trivial)] at hx
        injection hx with e
        injection e with _ e
        exact e.symm
      have wf1 : Hid ((Lit.int .i64 1).wf = true) := by show _ = true; decide
      have wf2 : Hid ((Lit.int .i64 2).wf = true) := by show _ = true; decide
      generalize cntF gf (faG t p) q = CT at WAYS ⊢
      clear hown hJ hat h0 HB HRI HI HF HG hgk
      rcases WAYS with ⟨hE, WAYS⟩ | ⟨hE, WAYS⟩
      · have HE : Hid (kv t p k = 1) := by show kv t p k = 1; unfold kv; rw [hE]; rfl
        clear hE
        rcases WAYS with ⟨rfl, j, rfl, hj8, hbit⟩ | ⟨rfl, hc⟩ | ⟨rfl, hc⟩ | ⟨rfl, hc⟩
        all_goals
          go_wp2_with (first
            | (at_lookup; refine wpList_lookup_own_int _ rfl _ _ 64 rfl 3 3 .i64 lawI Try.underlying64 Try.underlying3 (zeroI _) w0.heap.size (J2 + 1 + 1) _ rfl hown2 _ _ rfl HKey.out ?_; intro cv hat hwc; obtain rfl := HV2.out _ hat; clear hat hwc)
            | (at_mapUpdate; refine wpList_mapUpdate_own _ rfl _ _ _ 64 rfl 3 3 lawI Try.underlying64 _ w0.heap.size J2 _ rfl OJ.out hjm.out _ _ _ rfl rfl HKey.out _ [] (plainElem_int Try.underlying3 wf2.out) ?_; intro w5 hown1 hgrow1)
            | (at_mapUpdate; refine wpList_mapUpdate_own _ rfl _ _ _ 64 rfl 3 3 lawI Try.underlying64 _ w0.heap.size (J2 + 1) _ rfl hown1 hjm2.out _ _ _ rfl rfl HKey.out _ [] (plainElem_int Try.underlying3 wf1.out) ?_; intro w6 hown2 hgrow2))
          go_ret
          have GR : Hid (wr.grownBy w6 (some w0.heap.size)) := hgrow1.trans hgrow2
          exact ⟨by rw [HE.out]; rfl, ⟨_, memo_end HM.out hk HZ.out GR.out hown2 (by have := HJ.out; omega) (fun j hj => by
            by_cases e : j = k
            · subst e
              rw [if_pos rfl, HE.out]
              exact atKey_put_same (P1.out.put _ _) (show WideAt.IsKeyLit (.int .i64 (j : Int)) from trivial) _ _
            · rw [if_neg e, atKey_put_other (keyI_ne e), atKey_put_other (keyI_ne e)]
              exact HD.out j hj), fun j hj => by
            show (if j = k then _ else K' j) = K j
            rw [if_neg (by omega)]
            exact HK.out j (by omega)⟩, HW.out.trans GR.out⟩
      · have HE : Hid (kv t p k = 2) := by show kv t p k = 2; unfold kv; rw [hE]; rfl
        clear hE
        rcases WAYS with ⟨rfl, j, rfl, hj8, hbit⟩ | ⟨rfl, hc⟩ | ⟨rfl, hc⟩ | ⟨rfl, hc⟩
        all_goals
          go_wp2_with (first
            | (at_lookup; refine wpList_lookup_own_int _ rfl _ _ 64 rfl 3 3 .i64 lawI Try.underlying64 Try.underlying3 (zeroI _) w0.heap.size (J2 + 1) _ rfl hown1 _ _ rfl HKey.out ?_; intro cv hat hwc; obtain rfl := HV1.out _ hat; clear hat hwc)
            | (at_mapUpdate; refine wpList_mapUpdate_own _ rfl _ _ _ 64 rfl 3 3 lawI Try.underlying64 _ w0.heap.size J2 _ rfl OJ.out hjm.out _ _ _ rfl rfl HKey.out _ [] (plainElem_int Try.underlying3 wf2.out) ?_; intro w5 hown1 hgrow1))
          go_ret
          have GR : Hid (wr.grownBy w5 (some w0.heap.size)) := hgrow1
          exact ⟨by rw [HE.out]; rfl, ⟨_, memo_end HM.out hk HZ.out GR.out hown1 (by have := HJ.out; omega) (fun j hj => by
            by_cases e : j = k
            · subst e
              rw [if_pos rfl, HE.out]
              exact atKey_put_same P1.out (show WideAt.IsKeyLit (.int .i64 (j : Int)) from trivial) _ _
            · rw [if_neg e, atKey_put_other (keyI_ne e)]
              exact HD.out j hj), fun j hj => by
            show (if j = k then _ else K' j) = K j
            rw [if_neg (by omega)]
            exact HK.out j (by omega)⟩, HW.out.trans GR.out⟩

theorem failing_any (w0 : World) (a : Option Addr) (n c : Nat) (t : Nat → Gt) (p : Nat) (hR : RowG w0 a n t) (hc : chG t n = 0) (hp : p < 65536) (k : Nat) (hk : k < n) : FailsC w0 a n c t p k := by
  induction k using Nat.strongRecOn with
  | ind k ih =>
    intro K w M
    by_cases h0 : K k = 0
    · exact failing_new w0 a n c t p k hR hc hp hk (fun m hm => ih m hm (by omega)) K w M h0
    · refine (failing_known w0 a n c t p k hk (chG_zero hc).2.1 K w M h0).mono ?_
      rintro e w' ⟨rfl, rfl⟩
      exact ⟨rfl, ⟨K, M, fun _ _ => rfl⟩, grown_of (Below.refl _ _)⟩

set_option maxHeartbeats 1000000 in
theorem rfails_any (a : Option Addr) (n c p : Nat) (t : Nat → Gt) (w : World) (hR : RowG w a n t) (hc : chG t n = 0) (hp : p < 65536) :
    Calls Try.prog 20 #[.slice a n c, .int .u16 p] w fun e w' => e = .returned (.bool (faT t n p)) ∧ Below w.heap.size w w' := by
  obtain ⟨n1, n2, _⟩ := chG_zero hc
  have C : Hid (FailsC w a n c t p (n - 1)) := failing_any w a n c t p hR hc hp (n - 1) (by omega)
  have M0 : Hid (Memo w t p n (fun _ => 0) (w.alloc (.map #[] 0))) := by
    refine ⟨gbox _ _, by simp, ⟨0, .map [], World.ownsMap_made _ _ _ _, by omega, fun k hk => rfl⟩, fun k hk h => absurd rfl h⟩
  obtain ⟨m, rfl⟩ : ∃ m, n = m + 1 := ⟨n - 1, by omega⟩
  have e1 : faT t (m + 1) p = faG t p m := rfl
  rw [e1]
  have C2 : Hid (FailsC w a (m + 1) c t p m) := C.out
  have C3 := C2.out _ _ M0.out
  unfold kv at C3
  have y1 : ((m + 1 : Nat) : Int) - 1 = (m : Int) := by omega
  have hmm := @run_makeMap Try.prog
  have y2 : (m : Int) ≤ 29 := by omega
  clear C C2 M0 hR hc n1 n2
  obtain ⟨x, hx⟩ : ∃ x, faG t p m = x := ⟨_, rfl⟩
  rw [hx] at C3 ⊢
  cases x
  · go_enter Try.func20, Try.ntmps20
    go_wp2_with fail
    refine C3.mono ?_
    rintro e w2 ⟨rfl, ⟨K2, hm2, _⟩, _⟩
    have B2 : Hid (Below w.heap.size w w2) := hm2.bel
    clear hm2 C3
    go_wp2_with fail
    go_ret
    exact ⟨rfl, B2.out⟩
  · go_enter Try.func20, Try.ntmps20
    go_wp2_with fail
    refine C3.mono ?_
    rintro e w2 ⟨rfl, ⟨K2, hm2, _⟩, _⟩
    have B2 : Hid (Below w.heap.size w w2) := hm2.bel
    clear hm2 C3
    go_wp2_with fail
    go_ret
    exact ⟨rfl, B2.out⟩

end Go.Proofs.Ytacophekhknbpaa
