/-
  Contracts of log.oneMore, log.added and log.Put: a new row of entries. Of the memory that was there nothing turns.
-/
import Derived.Test.YtkklinjamcfppaaDoorEntClone
import Derived.Deep.RegionLaw
import Derived.Deep.RegionHeldLaw
import Derived.ArgAppend
namespace Go.Proofs.YtkklinjamcfppaaDoor
open Go.RowKit
set_option linter.unusedVariables false

/-- the q-th of n entries: another one -/
def setE (l : Nat → En) (q : Nat) (x : En) (t : Nat) : En := if t = q then x else l t
/-- once more, at most 9999 times -/
def moreE (x : En) : En := ⟨x.f, x.l, x.c, if 9999 < x.m + 1 then 9999 else x.m + 1⟩
theorem cellE_set_3 (l : Nat → En) (q n : Nat) (m : Int) (hq : q < n) : (valE l n).set (q * 4 + 3) (.int .i64 m) = valE (setE l q ⟨(l q).f, (l q).l, (l q).c, m⟩) n := by
  apply List.ext_getElem?
  intro j
  by_cases hj : j < n * 4
  · rw [valE_get _ hj, List.getElem?_set]
    by_cases e : q * 4 + 3 = j
    · subst e
      rw [if_pos rfl, if_pos (by rw [valE_length]; exact hj), cellE_3]
      unfold setE
      rw [if_pos rfl]
    · rw [if_neg e, valE_get _ hj]
      unfold cellE setE
      by_cases k : j / 4 = q
      · rw [if_pos k, k]
        have r : ¬ j % 4 = 3 := by omega
        rcases (show j % 4 = 0 ∨ j % 4 = 1 ∨ j % 4 = 2 by omega) with r | r | r <;> simp [r]
      · rw [if_neg k]
  · rw [List.getElem?_eq_none (by rw [List.length_set, valE_length]; omega), List.getElem?_eq_none (by rw [valE_length]; omega)]

set_option maxHeartbeats 2000000 in
theorem oneMore_any (a : Option Addr) (n c : Nat) (l : Nat → En) (w : World) (hn : n + 1 ≤ 32) (h : RowE w a (n + 1) l) (hm : 1 ≤ (l n).m ∧ (l n).m ≤ 9999) :
    Calls Tryd.prog 22 #[.slice a (n + 1 : Nat) c] w fun e w' => ∃ a' c', e = .returned (.slice a' (n + 1 : Nat) c') ∧ NwE w.heap.size w' a' (n + 1) c' (setE l n (moreE (l n))) ∧ Below w.heap.size w w' := by
  have C := cloneE_any a (n + 1) c l w (by omega) h
  go_enter Tryd.func22, Tryd.ntmps22
  go_wp2_with fail
  refine C.mono ?_
  rintro e w1 ⟨v, rfl, ho, hb⟩
  obtain ⟨g, cap, rfl, hg, hl⟩ := World.ownsRow.form ho (by omega)
  have HO : Hid (OwE w.heap.size w1 (.slice (some ⟨g, 0, none⟩) (n + 1) cap) (n + 1) l) := ho
  have HB : Hid (Below w.heap.size w w1) := hb
  have x3 := (HO.out.eat (q := n) (by omega)).m
  have fz := World.ownsRow.frozenAt ho (n * 4 + 3)
  obtain ⟨m0, m1⟩ := hm
  obtain ⟨y, hy⟩ : ∃ y, (if 9999 < (l n).m + 1 then 9999 else (l n).m + 1) = y := ⟨_, rfl⟩
  have hmin : ∀ (W : World) (ts : Array TypeId) (t : TypeId), (Builtin.min_ ts t #[.int .i64 ((l n).m + 1), .int .i64 9999]).run Tryd.prog W = .ok (.int .i64 y) W := fun W ts t => by
    rw [run_min_int2 W ts t .i64 .i64 ((l n).m + 1) 9999, hy]
  have HY : Hid ((⟨(l n).f, (l n).l, (l n).c, y⟩ : En) = moreE (l n)) := by
    show (⟨(l n).f, (l n).l, (l n).c, y⟩ : En) = moreE (l n)
    rw [← hy]
    rfl
  clear hy
  generalize (l n).m = m at x3 m0 m1 hmin
  clear ho hb C h
  go_wp2_with fail
  go_ret
  have HS := World.ownsRow.stored HO.out (n * 4 + 3) (.int .i64 y)
  have h1 := HS.1
  rw [cellE_set_3 l n (n + 1) y (by omega), HY.out] at h1
  obtain ⟨a', c', e, hN⟩ := OwE.nw (l := setE l n (moreE (l n))) h1
  simp only [Value.slice.injEq] at e
  obtain ⟨rfl, _, rfl⟩ := e
  exact ⟨_, _, rfl, hN, HB.out.setCell (p := ⟨g, n * 4 + 3, none⟩) hg _⟩

/-- k entries from the G-th on, and x behind them -/
def addE (l : Nat → En) (G k : Nat) (x : En) (t : Nat) : En := if t < k then l (G + t) else x
theorem valE_add (l : Nat → En) (G k : Nat) (x : En) : valE (fun t => l (G + t)) k ++ [.int .i64 x.f, .int .i64 x.l, .int .i64 x.c, .int .i64 x.m] = valE (addE l G k x) (k + 1) := by
  apply List.ext_getElem?
  intro j
  by_cases hj : j < k * 4
  · rw [List.getElem?_append_left (by rw [valE_length]; exact hj), valE_get _ hj, valE_get _ (by omega)]
    unfold cellE addE
    rw [if_pos (show j / 4 < k by omega)]
  · rw [List.getElem?_append_right (by rw [valE_length]; omega), valE_length]
    by_cases hq : j < (k + 1) * 4
    · rw [valE_get _ hq]
      obtain ⟨r, rfl⟩ : ∃ r, j = k * 4 + r := ⟨j - k * 4, by omega⟩
      have e : (addE l G k x) k = x := by unfold addE; rw [if_neg (by omega)]
      rw [show k * 4 + r - k * 4 = r by omega]
      rcases (show r = 0 ∨ r = 1 ∨ r = 2 ∨ r = 3 by omega) with rfl | rfl | rfl | rfl
      · rw [Nat.add_zero, cellE_0, e]; rfl
      · rw [cellE_1, e]; rfl
      · rw [cellE_2, e]; rfl
      · rw [cellE_3, e]; rfl
    · rw [List.getElem?_eq_none (l := valE (addE l G k x) (k + 1)) (by rw [valE_length]; omega), List.getElem?_eq_none (by show 4 ≤ _; omega)]
theorem four_at {w : World} {b : Nat} {x : En} (h : Cells w b [.int .i64 x.f, .int .i64 x.l, .int .i64 x.c, .int .i64 x.m]) : ∀ j u, [.int .i64 x.f, .int .i64 x.l, .int .i64 x.c, .int .i64 x.m][j]? = some u → w.cell? ((⟨b, 0, none⟩ : Addr).add j) = some u := fun j u hu => by
  rw [Addr.add_lit, Nat.zero_add]
  exact h.cell j u hu

/-- append to a row of one's own, as a step of a region that draws -/
theorem step_append_own {P : Program} {ops : Array Oper} {o : Oper} {a : Act} {w : World} {K : Act → World → Prop} {Q : Exit → Act → World → Prop} {E : Prop}
    (d : Option Nat) (hd : o.dst = d) (hg : o.guard = none) (s x : Operand) (t : TypeId) (hop : o.op = Op.call { callee := Callee.builtin Builtin.append, args := #[s, x], argTypes := #[t, t] })
    (base : Nat) (e : TypeId) (i : TypeInfo) (z : Value) (size bytes : Nat) (h1 : P.underlying t = some (.slice e)) (h2 : P.info? e = some i) (h3 : i.zero = some z) (h4 : i.size = size) (h5 : i.bytes = bytes) (h6 : z.cells.size = size) (h7 : 0 < size)
    (v : Value) (n : Nat) (xs : List Value) (hs : a.eval s = v) (hown : w.ownsRow base e size v n xs)
    (ad : Addr) (m c : Nat) (news : List Value) (hx : a.eval x = .slice (some ad) m c) (hn : news.length = m * size) (hc : ∀ j u, news[j]? = some u → w.cell? (ad.add j) = some u) (h1c : ∀ u ∈ news, u.oneCell' = true)
    (b1 : n + m ≤ maxLen) (b2 : (n + m) * bytes ≤ 140737488355328) (b3 : base ≤ w.heap.size)
    (hK : ∀ v' w', w'.ownsRow base e size v' (n + m) (xs ++ news) → w.grownBy w' v.ownBlock → K (a.put d v') w') :
    if Region.wanted o (yielded ops a.tmps) = true then Oper.wp P o a w K Q else E := by
  subst hd
  have hw : Region.wanted o (yielded ops a.tmps) = true := by simp [Region.wanted, hg]
  rw [if_pos hw]
  obtain ⟨v', w', hrun, r1, r2, _⟩ := run_append_own (P := P) w base t o.type e i z size bytes h1 h2 h3 h4 h5 h6 h7 v n xs hown ad m c news hn hc h1c b1 b2 b3
  unfold Oper.wp
  simp [execOp, hop, resolve, invoke, builtin, hs, hx, hrun, Result.andThen]
  exact hK v' w' r1 r2

set_option maxHeartbeats 4000000 in
theorem added_core (G k n : Nat) (b o c : Nat) (l : Nat → En) (x : En) (w : World) (hG : G = 0 ∧ n = k ∧ k < 32 ∨ G = 1 ∧ n = 32 ∧ k = 31) (hk : 1 ≤ k) (hc : n ≤ c) (hm : c ≤ maxLen) (h : RowE w (some ⟨b, o, none⟩) n l) :
    Calls Tryd.prog 23 #[.slice (some ⟨b, o, none⟩) n c, .agg #[.int .i64 x.f, .int .i64 x.l, .int .i64 x.c, .int .i64 x.m]] w fun e w' => ∃ a' c', e = .returned (.slice a' (k + 1 : Nat) c') ∧ NwE w.heap.size w' a' (k + 1) c' (addE l G k x) ∧ Below w.heap.size w w' := by
  have hk32 : k < 32 := by omega
  have e1 : n - G = k := by omega
  have HR : Hid (RowE w (some ⟨b, o + G * 4, none⟩) k (fun t => l (G + t))) := fun _ => by
    obtain ⟨b', o', e, h1, h2⟩ := h (by omega)
    cases e
    refine ⟨b, o + G * 4, rfl, h1, fun j hj => ?_⟩
    have := h2 (G + j) (by omega)
    rw [Nat.add_mul, ← Nat.add_assoc] at this
    exact this
  have C : Hid (∀ W, Below w.heap.size w W → Calls Tryd.prog 17 #[.slice (some ⟨b, o + G * 4, none⟩) k (c - G)] W fun e w' => ∃ v, e = .returned v ∧ OwE W.heap.size w' v k (fun t => l (G + t)) ∧ Below W.heap.size W w') := fun W hW => cloneE_any _ k _ _ W (by omega) (HR.out.step hW)
  clear h HR
  have hmax : ∀ (W : World) (ts : Array TypeId) (t : TypeId), (Builtin.max_ ts t #[.int .i64 0, .int .i64 ((n : Int) + 1 - 32)]).run Tryd.prog W = .ok (.int .i64 (G : Int)) W := fun W ts t => by
    rw [run_max_int2 W ts t .i64 .i64 0 ((n : Int) + 1 - 32)]
    congr 2
    split <;> omega
  obtain ⟨i, i1, i2, i3, i4⟩ := infoE
  have W0 : Hid (Below w.heap.size w (w.alloc (.cells #[.int .i64 x.f, .int .i64 x.l, .int .i64 x.c, .int .i64 x.m] 33))) := (Below.refl _ w).alloc (Nat.le_refl _) _
  have z1 : ¬ c = G := by omega
  have z2 : (0 : Int) ≤ (G : Int) := by omega
  have z3 : (G : Int) ≤ (n : Int) := by omega
  have z4 : (n : Int) ≤ (c : Int) := by omega
  have z5 : (n : Int) ≤ 32 := by omega
  clear hG
  go_enter Tryd.func23, Tryd.ntmps23
  go_wp2_with fail
  have X0' : Cells (w.alloc (.cells #[.int .i64 x.f, .int .i64 x.l, .int .i64 x.c, .int .i64 x.m] 33)) w.heap.size [.int .i64 x.f, .int .i64 x.l, .int .i64 x.c, .int .i64 x.m] := cells_new _ _ _
  obtain ⟨w1, hw1⟩ : ∃ w1, w1 = w.alloc (.cells #[.int .i64 x.f, .int .i64 x.l, .int .i64 x.c, .int .i64 x.m] 33) := ⟨_, rfl⟩
  rw [← hw1] at X0' W0 ⊢
  have X0 : Hid (Cells w1 w.heap.size [.int .i64 x.f, .int .i64 x.l, .int .i64 x.c, .int .i64 x.m]) := X0'
  clear hw1 X0'
  have x0 := X0.out.cell 0 _ rfl
  have x1 := X0.out.cell 1 _ rfl
  have x2 := X0.out.cell 2 _ rfl
  have x3 := X0.out.cell 3 _ rfl
  have l1 : w.heap.size < w1.heap.size := X0.out.lt
  have C2 : Hid (∀ W, Below w1.heap.size w1 W → Calls Tryd.prog 17 #[.slice (some ⟨b, o + G * 4, none⟩) k (c - G)] W fun e w' => ∃ v, e = .returned v ∧ OwE w1.heap.size w' v k (fun t => l (G + t)) ∧ Below w1.heap.size w1 w' ∧ (∀ b vs, Cells W b vs → Cells w' b vs) ∧ EAt w' w.heap.size 0 x) := fun W hW => by
    refine (C.out W (W0.out.trans (hW.mono W0.out.size))).mono ?_
    rintro e w2 ⟨v, rfl, ho, hb⟩
    have X2 := (X0.out.step hW).step hb
    exact ⟨v, rfl, World.ownsRow.mono ho hW.size, hW.trans (hb.mono hW.size), fun b vs h => h.step hb, X2.cell 0 _ rfl, X2.cell 1 _ rfl, X2.cell 2 _ rfl, X2.cell 3 _ rfl⟩
  have LF : Hid (Below w1.heap.size w1 w1) := Below.refl _ _
  clear C
  go_region_held_law (fun w' => w'.cell? ⟨w.heap.size, 0, none⟩ = some (.int .i64 x.f) ∧ w'.cell? ⟨w.heap.size, 1, none⟩ = some (.int .i64 x.l) ∧ w'.cell? ⟨w.heap.size, 2, none⟩ = some (.int .i64 x.c) ∧ w'.cell? ⟨w.heap.size, 3, none⟩ = some (.int .i64 x.m)) (go_keep) (first | (refine step_append_own (some 17) rfl rfl (.tmp 14) (.tmp 16) 22 rfl w1.heap.size 33 i (.agg #[.int .i64 0, .int .i64 0, .int .i64 0, .int .i64 0]) 4 32 Tryd.underlying22 i1 i2 i3 i4 rfl (by decide) _ k (valE (fun t => l (G + t)) k) rfl (by first | exact HO.out | exact World.ownsRow.alloc HO.out _) _ 1 1 [.int .i64 x.f, .int .i64 x.l, .int .i64 x.c, .int .i64 x.m] rfl rfl (by first | exact four_at (cells_new _ _ _) | exact four_at (CL.out _ _ (cells_new _ _ _)) | exact four_at (CL.out _ _ (Cells.drew (cells_new _ _ _)))) (fun u hu => by simp at hu; rcases hu with rfl | rfl | rfl | rfl <;> rfl) (by unfold maxLen; omega) (by omega) (by first | exact HB.out.size | (have := HB.out.size; simp; omega)) ?_; intro v3 w3 ho hgr; have HO3 : Hid (w3.ownsRow w1.heap.size 33 4 v3 (k + 1) (valE (fun t => l (G + t)) k ++ [.int .i64 x.f, .int .i64 x.l, .int .i64 x.c, .int .i64 x.m])) := ho; have HB3 : Hid (Below w1.heap.size w1 w3) := (by first | exact HB.out.grown hgr HB.out.size (fun k hk => (World.ownsRow.lt HO.out k hk).1) | exact (HB.out.alloc HB.out.size _).grown hgr (by have := HB.out.size; simp; omega) (fun k hk => (World.ownsRow.lt HO.out k hk).1)); have y0 := (HB3.out.cell (p := ⟨w.heap.size, 0, none⟩) l1).trans x0; have y1 := (HB3.out.cell (p := ⟨w.heap.size, 1, none⟩) l1).trans x1; have y2 := (HB3.out.cell (p := ⟨w.heap.size, 2, none⟩) l1).trans x2; have y3 := (HB3.out.cell (p := ⟨w.heap.size, 3, none⟩) l1).trans x3; clear ho hgr) | (go_at_call 17; refine (C2.out _ (by first | exact LF.out | exact LF.out.drew | exact LF.out.alloc (Nat.le_refl _) _ | exact (LF.out.alloc (Nat.le_refl _) _).drew | exact LF.out.drew.alloc (Nat.le_refl _) _)).mono ?_; rintro e w2 ⟨v, rfl, ho, hb, hcl, z0, z1, z2, z3⟩; have HO : Hid (_) := ho; have HB : Hid (_) := hb; have CL : Hid (_) := hcl; clear ho hb hcl))
  all_goals
    rw [valE_add] at HO3
    have HN := OwE.nw (l := addE l G k x) HO3.out
    have HQ : Hid (_) := HN
    clear HN
    go_wp2
    go_ret
    obtain ⟨a', c', rfl, hN⟩ := HQ.out
    exact ⟨a', c', by rfl, hN.mono W0.out.size, below_then W0.out HB3.out W0.out.size⟩

end Go.Proofs.YtkklinjamcfppaaDoor
