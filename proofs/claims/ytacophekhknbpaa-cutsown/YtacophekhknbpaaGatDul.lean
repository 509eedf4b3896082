/-
  Contract of cuts.dualGate: a gate's dual, its row of numbers in memory of its own.
-/
import Derived.Test.YtacophekhknbpaaGat
import Derived.Deep.RegionHeldLaw
import Derived.Deep.RegionHeld3
import Derived.Deep.AppendLies
import Derived.Laws.AppendOwn
import Derived.Laws.OwnMore
namespace Go.Proofs.Ytacophekhknbpaa
open Go.RowKit
set_option linter.unusedVariables false

/-- n numbers that lie in a block that was made behind the N-th, or none -/
def RIN (N : Nat) (W : World) (a : Option Addr) (n : Nat) (f : Nat → Int) : Prop := 0 < n → ∃ b, a = some ⟨b, 0, none⟩ ∧ N ≤ b ∧ b < W.heap.size ∧ ∀ j, j < n → W.cell? ⟨b, j, none⟩ = some (.int .i64 (f j))
theorem RIN.step {N : Nat} {W W' : World} {a : Option Addr} {n : Nat} {f : Nat → Int} (h : RIN N W a n f) (hb : Below W.heap.size W W') : RIN N W' a n f := fun hn => by
  obtain ⟨b, rfl, h1, h2, h3⟩ := h hn
  exact ⟨b, rfl, h1, Nat.lt_of_lt_of_le h2 hb.size, fun j hj => (hb.cell (p := ⟨b, j, none⟩) h2).trans (h3 j hj)⟩
theorem RIN.mono {N M : Nat} {W : World} {a : Option Addr} {n : Nat} {f : Nat → Int} (h : RIN N W a n f) (hM : M ≤ N) : RIN M W a n f := fun hn => by
  obtain ⟨b, rfl, h1, h2⟩ := h hn
  exact ⟨b, rfl, Nat.le_trans hM h1, h2⟩
theorem RIN.ri {N : Nat} {W : World} {a : Option Addr} {n : Nat} {f : Nat → Int} (h : RIN N W a n f) : RI W a n f := fun hn => by
  obtain ⟨b, rfl, h1, h2, h3⟩ := h hn
  exact ⟨b, 0, rfl, h2, fun j hj => by rw [Nat.zero_add]; exact h3 j hj⟩
theorem RIN.set {N : Nat} {W : World} {g : Nat} {n : Nat} {f : Nat → Int} (h : RIN N W (some ⟨g, 0, none⟩) n f) {d : Nat} (hd : g ≠ d) (j : Nat) (v : Value) : RIN N (W.setCell ⟨d, j, none⟩ v) (some ⟨g, 0, none⟩) n f := fun hn => by
  obtain ⟨b, e, h1, h2, h3⟩ := h hn
  cases e
  exact ⟨_, rfl, h1, by simp [World.setCell]; exact h2, fun i hi => by rw [World.cell?_setCell_other _ _ _ _ (by simp <;> omega)]; exact h3 i hi⟩
def numsI (f : Nat → Int) (n : Nat) : List Value := (List.range n).map fun j => .int .i64 (f j)
theorem numsI_len (f : Nat → Int) (n : Nat) : (numsI f n).length = n := by simp [numsI]
theorem numsI_one {f : Nat → Int} {n : Nat} {v : Value} (h : v ∈ numsI f n) : v.oneCell' = true := by
  unfold numsI at h
  obtain ⟨x, _, rfl⟩ := List.mem_map.1 h
  rfl
theorem numsI_get {f : Nat → Int} {n j : Nat} (h : j < n) : (numsI f n)[j]? = some (.int .i64 (f j)) := by
  unfold numsI
  rw [List.getElem?_map, List.getElem?_range h]
  rfl
theorem numsI_at {f : Nat → Int} {n j : Nat} {u : Value} (h : (numsI f n)[j]? = some u) : j < n ∧ u = .int .i64 (f j) := by
  have q := (List.getElem?_eq_some_iff.1 h).1
  rw [numsI_len] at q
  rw [numsI_get q] at h
  exact ⟨q, by simpa using h.symm⟩
theorem infoI64 : ∃ i, Try.prog.info? 3 = some i ∧ i.zero = some (.int .i64 0) ∧ i.size = 1 ∧ i.bytes = 8 := by
  have h : (Try.prog.info? 3).map (fun i => (i.zero, i.size, i.bytes)) = some (some (.int .i64 0), 1, 8) := by kernel_rfl
  cases hi : Try.prog.info? 3 with
  | none => rw [hi] at h; simp at h
  | some i => rw [hi] at h; simp at h; exact ⟨i, rfl, h.1, h.2.1, h.2.2⟩
theorem rin_of {N n c : Nat} {W : World} {g : Nat} {f : Nat → Int} (h : W.ownsRow N 3 1 (.slice (some ⟨g, 0, none⟩) n c) n (numsI f n)) : RIN N W (some ⟨g, 0, none⟩) n f := fun hn => by
  refine ⟨g, rfl, (h.lt g rfl).1, (h.lt g rfl).2, fun j hj => ?_⟩
  have := h.cellAt j (by rw [Nat.mul_one]; exact hj)
  rw [this]
  exact numsI_get hj

/-- append to a row of one's own, as a step of a region that draws -/
theorem step_append_own {P : Program} {ops : Array Oper} {o : Oper} {a : Act} {w : World} {K : Act → World → Prop} {Q : Exit → Act → World → Prop} {E : Prop}
    (d : Option Nat) (hd : o.dst = d) (hg : o.guard = none) (s x : Operand) (t : TypeId) (hop : o.op = Op.call { callee := Callee.builtin Builtin.append, args := #[s, x], argTypes := #[t, t] })
    (base : Nat) (e : TypeId) (i : TypeInfo) (z : Value) (size bytes : Nat) (h1 : P.underlying t = some (.slice e)) (h2 : P.info? e = some i) (h3 : i.zero = some z) (h4 : i.size = size) (h5 : i.bytes = bytes) (h6 : z.cells.size = size) (h7 : 0 < size)
    (v : Value) (n : Nat) (xs : List Value) (hs : a.eval s = v) (hown : w.ownsRow base e size v n xs)
    (ad : Addr) (m c : Nat) (news : List Value) (hx : a.eval x = .slice (some ad) m c) (hn : news.length = m * size) (hc : ∀ j u, news[j]? = some u → w.cell? (ad.add j) = some u) (h1c : ∀ u ∈ news, u.oneCell' = true)
    (b1 : n + m ≤ maxLen) (b2 : (n + m) * bytes ≤ 140737488355328) (b3 : base ≤ w.heap.size)
    (hK : ∀ v' w', w'.ownsRow base e size v' (n + m) (xs ++ news) → w.grownBy w' v.ownBlock → K (a.put d v') w') :
    if Region.wanted o (yielded ops a.tmps) = true then Oper.wp P o a w K Q else E := by
  subst hd
  have hw : Region.wanted o (yielded ops a.tmps) = true := by simp [Region.wanted, hg]
  rw [if_pos hw]
  obtain ⟨v', w', hrun, r1, r2, _⟩ := run_append_own (P := P) w base t o.type e i z size bytes h1 h2 h3 h4 h5 h6 h7 v n xs hown ad m c news hn hc h1c b1 b2 b3
  unfold Oper.wp
  simp [execOp, hop, resolve, invoke, builtin, hs, hx, hrun, Result.andThen]
  exact hK v' w' r1 r2

/-- append of nothing to nothing, as a step of a region that draws -/
theorem step_append_no {P : Program} {ops : Array Oper} {o : Oper} {a : Act} {w : World} {K : Act → World → Prop} {Q : Exit → Act → World → Prop} {E : Prop}
    (d : Option Nat) (hd : o.dst = d) (hg : o.guard = none) (s x : Operand) (t : TypeId) (hop : o.op = Op.call { callee := Callee.builtin Builtin.append, args := #[s, x], argTypes := #[t, t] })
    (e : TypeId) (i : TypeInfo) (h1 : P.underlying t = some (.slice e)) (h2 : P.info? e = some i)
    (hs : a.eval s = .slice none 0 0) (y : Option Addr) (m c : Nat) (hm : m = 0) (hx : a.eval x = .slice y m c) (hK : K (a.put d (.slice none 0 0)) w) :
    if Region.wanted o (yielded ops a.tmps) = true then Oper.wp P o a w K Q else E := by
  subst hd
  subst hm
  have hw : Region.wanted o (yielded ops a.tmps) = true := by simp [Region.wanted, hg]
  rw [if_pos hw]
  have hrun : (Builtin.append_ #[t, t] o.type #[.slice none 0 0, .slice y 0 c]).run P w = .ok (.slice none 0 0) w := by
    cases y <;> simp [Builtin.append_, run_underlying h1, sizeOf, typeInfo, h2, Builtin.lenOf, Builtin.firstCells, loadCells, loadCellsFrom]
  unfold Oper.wp
  simp [execOp, hop, resolve, invoke, builtin, hs, hx, hrun, Result.andThen]
  exact hK

theorem gcells_grown {w w' : World} {b : Nat} {vs : List Value} {row : Option Nat} (h : Cells w b vs) (hg : w.grownBy w' row) (hne : some b ≠ row) : Cells w' b vs := by
  have e := hg.block b h.lt hne
  exact ⟨Nat.lt_of_lt_of_le h.lt hg.size, fun j v hj => (World.cell?_of_block (a := ⟨b, j, none⟩) e).trans (h.cell j v hj), fun j v hj => (World.frozen?_of_block (a := ⟨b, j, none⟩) e).trans (h.froz j v hj)⟩

theorem set3_other {w : World} {b d : Nat} (h : b ≠ d) (x y z : Value) (j : Nat) : (((w.setCell ⟨d, 0, none⟩ x).setCell ⟨d, 1, none⟩ y).setCell ⟨d, 2, none⟩ z).cell? ⟨b, j, none⟩ = w.cell? ⟨b, j, none⟩ := by
  rw [World.cell?_setCell_other _ _ _ _ (by simp <;> omega), World.cell?_setCell_other _ _ _ _ (by simp <;> omega), World.cell?_setCell_other _ _ _ _ (by simp <;> omega)]

/-- what a gate's kind and number turn to -/
def dK (k : Int) : Int := if k = 2 then 3 else if k = 3 then 2 else k
def dV (k v : Int) (n : Nat) : Int := if k = 4 then (n : Int) + 1 - v else v

theorem results_gate {fn : Func} {p : Tmp} (h : fn.results = #[.cell p 41]) (tmps : Array Value) (w : World) (b : Nat) (k v : Int) (s : Option Addr) (n c : Nat) (hp : tmps.getD p undef = .pointer (some ⟨b, 0, none⟩)) (R : Cells w b [.int .i64 k, .int .i64 v, .slice s n c]) :
    (results fn tmps).run Try.prog w = .ok (.agg #[.int .i64 k, .int .i64 v, .slice s n c]) w := by
  have hp' : tmps[p]?.getD undef = .pointer (some ⟨b, 0, none⟩) := by simpa using hp
  have q0 := R.cell 0 _ rfl
  have q1 := R.cell 1 _ rfl
  have q2 := R.cell 2 _ rfl
  simp [results, h, hp', asAddr, go_sem, q0, q1, q2]

set_option maxHeartbeats 4000000 in
set_option maxRecDepth 100000 in
theorem dualGate_none (k v K V : Int) (a : Option Addr) (n c : Nat) (w : World) (h0 : n = 0) (hk : k = 1 ∧ K = 1 ∧ V = v ∨ k = 2 ∧ K = 3 ∧ V = v ∨ k = 3 ∧ K = 2 ∧ V = v ∨ k = 4 ∧ K = 4 ∧ V = (n : Int) + 1 - v ∧ 0 ≤ v ∧ v ≤ (n : Int) + 1) :
    Calls Try.prog 40 #[.agg #[.int .i64 k, .int .i64 v, .slice a n c]] w fun e w' => e = .returned (.agg #[.int .i64 K, .int .i64 V, .slice none 0 0]) ∧ Below w.heap.size w w' := by
  have H0 : Hid (n = 0) := h0
  have HK : Hid (k = 1 ∧ K = 1 ∧ V = v ∨ k = 2 ∧ K = 3 ∧ V = v ∨ k = 3 ∧ K = 2 ∧ V = v ∨ k = 4 ∧ K = 4 ∧ V = (n : Int) + 1 - v ∧ 0 ≤ v ∧ v ≤ (n : Int) + 1) := hk
  clear h0 hk
  obtain ⟨i, i1, i2, i3, i4⟩ := infoI64
  go_enter Try.func40, Try.ntmps40
  go_wp2_with fail
  go_region_held_law (fun w' => w'.cell? ⟨w.heap.size, 0, none⟩ = some (.int .i64 k) ∧ w'.cell? ⟨w.heap.size, 1, none⟩ = some (.int .i64 v) ∧ w'.cell? ⟨w.heap.size, 2, none⟩ = some (.slice a n c)) (go_keep) (first | (refine step_append_no (some 10) rfl rfl _ (.tmp 9) 39 rfl 3 i Try.underlying39 i1 rfl a n c H0.out rfl ?_))
  all_goals
    have y1 : (n : Int) ≤ 6 := by have := H0.out; omega
    rcases HK.out with ⟨rfl, rfl, rfl⟩ | ⟨rfl, rfl, rfl⟩ | ⟨rfl, rfl, rfl⟩ | ⟨rfl, rfl, rfl, y2, y3⟩
    all_goals
      go_wp2_with fail
      go_returns
      refine ⟨rfl, ?_⟩
      repeat' first
        | exact Below.refl _ _
        | refine Below.setCell ?_ (by simp <;> omega) _
        | refine Below.drew ?_
        | refine Below.alloc ?_ (by simp <;> omega) _

set_option maxHeartbeats 8000000 in
set_option maxRecDepth 100000 in
theorem dualGate_some (k v K V : Int) (b o n c : Nat) (f : Nat → Int) (w : World) (h0 : 0 < n) (hn : n ≤ 6) (h : RI w (some ⟨b, o, none⟩) n f) (hk : k = 1 ∧ K = 1 ∧ V = v ∨ k = 2 ∧ K = 3 ∧ V = v ∨ k = 3 ∧ K = 2 ∧ V = v ∨ k = 4 ∧ K = 4 ∧ V = (n : Int) + 1 - v ∧ 0 ≤ v ∧ v ≤ (n : Int) + 1) :
    Calls Try.prog 40 #[.agg #[.int .i64 k, .int .i64 v, .slice (some ⟨b, o, none⟩) n c]] w fun e w' => ∃ a' c', e = .returned (.agg #[.int .i64 K, .int .i64 V, .slice a' n c']) ∧ RIN w.heap.size w' a' n f ∧ Below w.heap.size w w' := by
  have H0 : Hid (0 < n ∧ n ≤ 6) := ⟨h0, hn⟩
  have HK : Hid (k = 1 ∧ K = 1 ∧ V = v ∨ k = 2 ∧ K = 3 ∧ V = v ∨ k = 3 ∧ K = 2 ∧ V = v ∨ k = 4 ∧ K = 4 ∧ V = (n : Int) + 1 - v ∧ 0 ≤ v ∧ v ≤ (n : Int) + 1) := hk
  have HA : Hid (∀ W, Below w.heap.size w W → ∀ j u, (numsI f n)[j]? = some u → W.cell? ((⟨b, o, none⟩ : Addr).add j) = some u) := fun W hW j u hu => by
    obtain ⟨hj, rfl⟩ := numsI_at hu
    obtain ⟨b', o', e, _, hc⟩ := h.step hW h0
    cases e
    rw [Addr.add_lit]
    exact hc j hj
  have W0 : Hid (Below w.heap.size w ((w.alloc (.cells #[.int .i64 k, .int .i64 v, .slice (some ⟨b, o, none⟩) n c] 41)).alloc (.cells #[.int .i64 0, .int .i64 0, .slice none 0 0] 41))) := (gbox _ _).alloc (by simp) _
  have X0' : Cells ((w.alloc (.cells #[.int .i64 k, .int .i64 v, .slice (some ⟨b, o, none⟩) n c] 41)).alloc (.cells #[.int .i64 0, .int .i64 0, .slice none 0 0] 41)) w.heap.size [.int .i64 k, .int .i64 v, .slice (some ⟨b, o, none⟩) n c] := (cells_new _ _ _).alloc _
  have X1' : Cells ((w.alloc (.cells #[.int .i64 k, .int .i64 v, .slice (some ⟨b, o, none⟩) n c] 41)).alloc (.cells #[.int .i64 0, .int .i64 0, .slice none 0 0] 41)) (w.heap.size + 1) [.int .i64 0, .int .i64 0, .slice none 0 0] := by
    have := cells_new (w.alloc (.cells #[.int .i64 k, .int .i64 v, .slice (some ⟨b, o, none⟩) n c] 41)) #[.int .i64 0, .int .i64 0, .slice none 0 0] 41
    rw [show (w.alloc (.cells #[.int .i64 k, .int .i64 v, .slice (some ⟨b, o, none⟩) n c] 41)).heap.size = w.heap.size + 1 by simp] at this
    exact this
  clear h0 hk hn h
  obtain ⟨i, i1, i2, i3, i4⟩ := infoI64
  go_enter Try.func40, Try.ntmps40
  go_wp2_with fail
  obtain ⟨w1, hw1⟩ : ∃ w1, w1 = ((w.alloc (.cells #[.int .i64 k, .int .i64 v, .slice (some ⟨b, o, none⟩) n c] 41)).alloc (.cells #[.int .i64 0, .int .i64 0, .slice none 0 0] 41)) := ⟨_, rfl⟩
  rw [← hw1] at X0' X1' W0 ⊢
  have X0 : Hid (Cells w1 w.heap.size [.int .i64 k, .int .i64 v, .slice (some ⟨b, o, none⟩) n c]) := X0'
  have X1 : Hid (Cells w1 (w.heap.size + 1) [.int .i64 0, .int .i64 0, .slice none 0 0]) := X1'
  clear hw1 X0' X1'
  have x0 : w1.cell? ⟨w.heap.size, 0, none⟩ = some (.int .i64 k) := X0.out.cell 0 _ rfl
  have x1 : w1.cell? ⟨w.heap.size, 1, none⟩ = some (.int .i64 v) := X0.out.cell 1 _ rfl
  have x2 : w1.cell? ⟨w.heap.size, 2, none⟩ = some (.slice (some ⟨b, o, none⟩) n c) := X0.out.cell 2 _ rfl
  have l1 : w.heap.size < w1.heap.size := X0.out.lt
  have LF : Hid (Below w1.heap.size w1 w1) := Below.refl _ _
  have LA : Hid (∀ Z, Below w1.heap.size w1 (w1.alloc Z).drew) := fun Z => (LF.out.alloc (Nat.le_refl _) _).drew
  have LD : Hid (∀ Z, w1.heap.size + 1 ≤ (w1.alloc Z).drew.heap.size) := fun Z => Nat.le_trans (show w1.heap.size + 1 ≤ (w1.alloc Z).heap.size by simp) (Below.refl 0 (w1.alloc Z)).drew.size
  have LC : Hid (Cells (w1.alloc (.cells #[.int .i64 0, .int .i64 0, .slice none 0 0] 41)).drew w1.heap.size [.int .i64 0, .int .i64 0, .slice none 0 0]) := (cells_new w1 _ 41).drew
  go_region_held_law (fun w' => w'.cell? ⟨w.heap.size, 0, none⟩ = some (.int .i64 k) ∧ w'.cell? ⟨w.heap.size, 1, none⟩ = some (.int .i64 v) ∧ w'.cell? ⟨w.heap.size, 2, none⟩ = some (.slice (some ⟨b, o, none⟩) n c)) (go_keep) (first | (refine step_append_own (some 10) rfl rfl _ (.tmp 9) 39 rfl w1.heap.size 3 i (.int .i64 0) 1 8 Try.underlying39 i1 i2 i3 i4 rfl (by decide) (.slice none 0 0) 0 [] rfl (World.ownsRow_nil _ _ _ _) ⟨b, o, none⟩ n c (numsI f n) rfl (by rw [numsI_len, Nat.mul_one]) (HA.out _ (W0.out.trans (LF.out.drew.mono W0.out.size))) (fun u hu => numsI_one hu) (by have := H0.out; unfold maxLen; omega) (by have := H0.out; omega) LF.out.drew.size ?_; intro v2 w2 ho hgr; have HB2 : Hid (Below w1.heap.size w1 w2) := LF.out.drew.grown hgr LF.out.drew.size (fun k hk => by simp [Value.ownBlock] at hk); rw [List.nil_append, Nat.zero_add] at ho; obtain ⟨g, cap, rfl, hf1, hf2⟩ := World.ownsRow.form ho (by have := H0.out; omega); have HO2 : Hid (w2.ownsRow w1.heap.size 3 1 (.slice (some ⟨g, 0, none⟩) n cap) n (numsI f n)) := ho; have y0 := (HB2.out.cell (p := ⟨w.heap.size, 0, none⟩) l1).trans x0; have y1 := (HB2.out.cell (p := ⟨w.heap.size, 1, none⟩) l1).trans x1; have y2 := (HB2.out.cell (p := ⟨w.heap.size, 2, none⟩) l1).trans x2; clear ho hgr hf1 hf2) | (refine step_append_own (some 10) rfl rfl _ (.tmp 9) 39 rfl (w1.heap.size + 1) 3 i (.int .i64 0) 1 8 Try.underlying39 i1 i2 i3 i4 rfl (by decide) (.slice none 0 0) 0 [] rfl (World.ownsRow_nil _ _ _ _) ⟨b, o, none⟩ n c (numsI f n) rfl (by rw [numsI_len, Nat.mul_one]) (HA.out _ (W0.out.trans ((LA.out _).mono W0.out.size))) (fun u hu => numsI_one hu) (by have := H0.out; unfold maxLen; omega) (by have := H0.out; omega) (LD.out _) ?_; intro v2 w2 ho hgr; have HB2 : Hid (Below w1.heap.size w1 w2) := (LA.out _).grown hgr (LA.out _).size (fun k hk => by simp [Value.ownBlock] at hk); rw [List.nil_append, Nat.zero_add] at ho; obtain ⟨g, cap, rfl, hf1, hf2⟩ := World.ownsRow.form ho (by have := H0.out; omega); have HO2 : Hid (w2.ownsRow (w1.heap.size + 1) 3 1 (.slice (some ⟨g, 0, none⟩) n cap) n (numsI f n)) := ho; have y0 := (HB2.out.cell (p := ⟨w.heap.size, 0, none⟩) l1).trans x0; have y1 := (HB2.out.cell (p := ⟨w.heap.size, 1, none⟩) l1).trans x1; have y2 := (HB2.out.cell (p := ⟨w.heap.size, 2, none⟩) l1).trans x2; have CL := gcells_grown LC.out hgr (by simp [Value.ownBlock]); have u0 := CL.cell 0 _ rfl; have u1 := CL.cell 1 _ rfl; have u2 := CL.cell 2 _ rfl; have v0 := CL.froz 0 _ rfl; have v1 := CL.froz 1 _ rfl; have v2 := CL.froz 2 _ rfl; have lu := CL.lt; have lv : (w.heap.size + 1 : Nat) ≠ w1.heap.size := (by have := X1.out.lt; omega); have lw : (w.heap.size : Nat) ≠ w1.heap.size := (by omega); have CQ : Hid (Cells w2 w1.heap.size [.int .i64 0, .int .i64 0, .slice none 0 0]) := CL; have s0 := (set3_other lw (.int .i64 k) (.int .i64 v) (.slice (some ⟨g, 0, none⟩) n cap) 0).trans y0; have s1 := (set3_other lw (.int .i64 k) (.int .i64 v) (.slice (some ⟨g, 0, none⟩) n cap) 1).trans y1; have s2 := (set3_other lw (.int .i64 k) (.int .i64 v) (.slice (some ⟨g, 0, none⟩) n cap) 2).trans y2; clear CL ho hgr hf1 hf2))
  rotate_left 1
  · obtain ⟨W, hW⟩ : ∃ W, W = (((w2.setCell ⟨w1.heap.size, 0, none⟩ (.int .i64 k)).setCell ⟨w1.heap.size, 1, none⟩ (.int .i64 v)).setCell ⟨w1.heap.size, 2, none⟩ (.slice (some ⟨g, 0, none⟩) n cap)) := ⟨_, rfl⟩
    have HC : Hid (Cells W w.heap.size [.int .i64 k, .int .i64 v, .slice (some ⟨b, o, none⟩) n c]) := by
      rw [hW]
      exact (((X0.out.step HB2.out).other (by omega) _).other (by omega) _).other (by omega) _
    have HR : Hid (Cells W (w.heap.size + 1) [.int .i64 0, .int .i64 0, .slice none 0 0]) := by
      rw [hW]
      exact (((X1.out.step HB2.out).other (by omega) _).other (by omega) _).other (by omega) _
    have HT : Hid (Cells W w1.heap.size [.int .i64 k, .int .i64 v, .slice (some ⟨g, 0, none⟩) n cap]) := by
      rw [hW]
      have CL : Cells w2 w1.heap.size [.int .i64 0, .int .i64 0, .slice none 0 0] := CQ.out
      exact ((CL.set (j := 0) (by decide) _).set (j := 1) (by simp) _).set (j := 2) (by simp) _
    have HG : Hid (RIN w.heap.size W (some ⟨g, 0, none⟩) n f) := by
      rw [hW]
      have hne : g ≠ w1.heap.size := by have := (HO2.out.lt g rfl).1; omega
      exact RIN.set (RIN.set (RIN.set ((rin_of HO2.out).mono (by have := W0.out.size; omega)) hne _ _) hne _ _) hne _ _
    have HB : Hid (Below w.heap.size w W) := by
      rw [hW]
      exact (((W0.out.trans (HB2.out.mono W0.out.size)).setCell W0.out.size _).setCell W0.out.size _).setCell W0.out.size _
    have n1 : g ≠ w1.heap.size := by have := (HO2.out.lt g rfl).1; omega
    have n2 : g ≠ w.heap.size + 1 := by have := (HO2.out.lt g rfl).1; have := X1.out.lt; omega
    have N6 := X1.out.lt
    rw [← hW]
    clear hW HO2 HB2 X0 X1 CQ LA LC LD LF HA s0 s1 s2 y0 y1 y2 u0 u1 u2 v0 v1 v2 x0 x1 x2
    have n6 : w.heap.size + 1 < w1.heap.size := N6
    clear N6
    have n3 : w1.heap.size ≠ w.heap.size := by omega
    have n4 : w1.heap.size ≠ w.heap.size + 1 := by omega
    have n5 : w.heap.size < w1.heap.size := by omega
    clear W0 l1
    generalize w1.heap.size = T at *

    have x0 := HC.out.cell 0 _ rfl
    have x1 := HC.out.cell 1 _ rfl
    have x2 := HC.out.cell 2 _ rfl
    have c0 := HT.out.cell 0 _ rfl
    have c1 := HT.out.cell 1 _ rfl
    have c2 := HT.out.cell 2 _ rfl
    have f0 := HT.out.froz 0 _ rfl
    have f1 := HT.out.froz 1 _ rfl
    have f2 := HT.out.froz 2 _ rfl
    have d0 := HR.out.cell 0 _ rfl
    have d1 := HR.out.cell 1 _ rfl
    have d2 := HR.out.cell 2 _ rfl
    have g0 := HR.out.froz 0 _ rfl
    have g1 := HR.out.froz 1 _ rfl
    have g2 := HR.out.froz 2 _ rfl
    have k0 := HC.out.lt
    have k1 := HT.out.lt
    have k2 := HR.out.lt
    have RW : Hid (Cells W (w.heap.size + 1) [.int .i64 0, .int .i64 0, .slice none 0 0]) := HR.out
    have y3 : (n : Int) ≤ 6 := by have := H0.out; omega
    clear HC HT HR i1 i2 i3 i4
    rcases HK.out with ⟨rfl, rfl, rfl⟩ | ⟨rfl, rfl, rfl⟩ | ⟨rfl, rfl, rfl⟩ | ⟨rfl, rfl, rfl, y4, y5⟩
    · clear HK
      go_wp2_with fail
      have R : Cells (((W.setCell ⟨w.heap.size + 1, 0, none⟩ (.int .i64 1)).setCell ⟨w.heap.size + 1, 1, none⟩ (.int .i64 V)).setCell ⟨w.heap.size + 1, 2, none⟩ (.slice (some ⟨g, 0, none⟩) n cap)) (w.heap.size + 1) [.int .i64 1, .int .i64 V, .slice (some ⟨g, 0, none⟩) n cap] := ((RW.out.set (j := 0) (by decide) _).set (j := 1) (by simp) _).set (j := 2) (by simp) _
      have GX : RIN w.heap.size (((W.setCell ⟨w.heap.size + 1, 0, none⟩ (.int .i64 1)).setCell ⟨w.heap.size + 1, 1, none⟩ (.int .i64 V)).setCell ⟨w.heap.size + 1, 2, none⟩ (.slice (some ⟨g, 0, none⟩) n cap)) (some ⟨g, 0, none⟩) n f := RIN.set (RIN.set (RIN.set HG.out n2 _ _) n2 _ _) n2 _ _
      have BX : Below w.heap.size w (((W.setCell ⟨w.heap.size + 1, 0, none⟩ (.int .i64 1)).setCell ⟨w.heap.size + 1, 1, none⟩ (.int .i64 V)).setCell ⟨w.heap.size + 1, 2, none⟩ (.slice (some ⟨g, 0, none⟩) n cap)) := ((HB.out.setCell (by simp <;> omega) _).setCell (by simp <;> omega) _).setCell (by simp <;> omega) _
      generalize (((W.setCell ⟨w.heap.size + 1, 0, none⟩ (.int .i64 1)).setCell ⟨w.heap.size + 1, 1, none⟩ (.int .i64 V)).setCell ⟨w.heap.size + 1, 2, none⟩ (.slice (some ⟨g, 0, none⟩) n cap)) = W2 at R GX BX ⊢
      try simp only [Exit.inBlock, Exit.then]
      refine bodyPost_ret (results_gate rfl _ _ _ _ _ _ _ _ rfl R) rfl ?_
      exact ⟨_, cap, rfl, GX, BX⟩
    · clear HK
      go_wp2_with fail
      have R : Cells ((((W.setCell ⟨T, 0, none⟩ (.int .i64 3)).setCell ⟨w.heap.size + 1, 0, none⟩ (.int .i64 3)).setCell ⟨w.heap.size + 1, 1, none⟩ (.int .i64 V)).setCell ⟨w.heap.size + 1, 2, none⟩ (.slice (some ⟨g, 0, none⟩) n cap)) (w.heap.size + 1) [.int .i64 3, .int .i64 V, .slice (some ⟨g, 0, none⟩) n cap] := (((RW.out.other n4 _).set (j := 0) (by decide) _).set (j := 1) (by simp) _).set (j := 2) (by simp) _
      have GX : RIN w.heap.size ((((W.setCell ⟨T, 0, none⟩ (.int .i64 3)).setCell ⟨w.heap.size + 1, 0, none⟩ (.int .i64 3)).setCell ⟨w.heap.size + 1, 1, none⟩ (.int .i64 V)).setCell ⟨w.heap.size + 1, 2, none⟩ (.slice (some ⟨g, 0, none⟩) n cap)) (some ⟨g, 0, none⟩) n f := RIN.set (RIN.set (RIN.set (RIN.set HG.out n1 _ _) n2 _ _) n2 _ _) n2 _ _
      have BX : Below w.heap.size w ((((W.setCell ⟨T, 0, none⟩ (.int .i64 3)).setCell ⟨w.heap.size + 1, 0, none⟩ (.int .i64 3)).setCell ⟨w.heap.size + 1, 1, none⟩ (.int .i64 V)).setCell ⟨w.heap.size + 1, 2, none⟩ (.slice (some ⟨g, 0, none⟩) n cap)) := (((HB.out.setCell (by simp <;> omega) _).setCell (by simp <;> omega) _).setCell (by simp <;> omega) _).setCell (by simp <;> omega) _
      generalize ((((W.setCell ⟨T, 0, none⟩ (.int .i64 3)).setCell ⟨w.heap.size + 1, 0, none⟩ (.int .i64 3)).setCell ⟨w.heap.size + 1, 1, none⟩ (.int .i64 V)).setCell ⟨w.heap.size + 1, 2, none⟩ (.slice (some ⟨g, 0, none⟩) n cap)) = W2 at R GX BX ⊢
      try simp only [Exit.inBlock, Exit.then]
      refine bodyPost_ret (results_gate rfl _ _ _ _ _ _ _ _ rfl R) rfl ?_
      exact ⟨_, cap, rfl, GX, BX⟩
    · clear HK
      go_wp2_with fail
      have R : Cells ((((W.setCell ⟨T, 0, none⟩ (.int .i64 2)).setCell ⟨w.heap.size + 1, 0, none⟩ (.int .i64 2)).setCell ⟨w.heap.size + 1, 1, none⟩ (.int .i64 V)).setCell ⟨w.heap.size + 1, 2, none⟩ (.slice (some ⟨g, 0, none⟩) n cap)) (w.heap.size + 1) [.int .i64 2, .int .i64 V, .slice (some ⟨g, 0, none⟩) n cap] := (((RW.out.other n4 _).set (j := 0) (by decide) _).set (j := 1) (by simp) _).set (j := 2) (by simp) _
      have GX : RIN w.heap.size ((((W.setCell ⟨T, 0, none⟩ (.int .i64 2)).setCell ⟨w.heap.size + 1, 0, none⟩ (.int .i64 2)).setCell ⟨w.heap.size + 1, 1, none⟩ (.int .i64 V)).setCell ⟨w.heap.size + 1, 2, none⟩ (.slice (some ⟨g, 0, none⟩) n cap)) (some ⟨g, 0, none⟩) n f := RIN.set (RIN.set (RIN.set (RIN.set HG.out n1 _ _) n2 _ _) n2 _ _) n2 _ _
      have BX : Below w.heap.size w ((((W.setCell ⟨T, 0, none⟩ (.int .i64 2)).setCell ⟨w.heap.size + 1, 0, none⟩ (.int .i64 2)).setCell ⟨w.heap.size + 1, 1, none⟩ (.int .i64 V)).setCell ⟨w.heap.size + 1, 2, none⟩ (.slice (some ⟨g, 0, none⟩) n cap)) := (((HB.out.setCell (by simp <;> omega) _).setCell (by simp <;> omega) _).setCell (by simp <;> omega) _).setCell (by simp <;> omega) _
      generalize ((((W.setCell ⟨T, 0, none⟩ (.int .i64 2)).setCell ⟨w.heap.size + 1, 0, none⟩ (.int .i64 2)).setCell ⟨w.heap.size + 1, 1, none⟩ (.int .i64 V)).setCell ⟨w.heap.size + 1, 2, none⟩ (.slice (some ⟨g, 0, none⟩) n cap)) = W2 at R GX BX ⊢
      try simp only [Exit.inBlock, Exit.then]
      refine bodyPost_ret (results_gate rfl _ _ _ _ _ _ _ _ rfl R) rfl ?_
      exact ⟨_, cap, rfl, GX, BX⟩
    · clear HK
      go_wp2_with fail
      have R : Cells ((((W.setCell ⟨T, 1, none⟩ (.int .i64 ((n : Int) + 1 - v))).setCell ⟨w.heap.size + 1, 0, none⟩ (.int .i64 4)).setCell ⟨w.heap.size + 1, 1, none⟩ (.int .i64 ((n : Int) + 1 - v))).setCell ⟨w.heap.size + 1, 2, none⟩ (.slice (some ⟨g, 0, none⟩) n cap)) (w.heap.size + 1) [.int .i64 4, .int .i64 ((n : Int) + 1 - v), .slice (some ⟨g, 0, none⟩) n cap] := (((RW.out.other n4 _).set (j := 0) (by decide) _).set (j := 1) (by simp) _).set (j := 2) (by simp) _
      have GX : RIN w.heap.size ((((W.setCell ⟨T, 1, none⟩ (.int .i64 ((n : Int) + 1 - v))).setCell ⟨w.heap.size + 1, 0, none⟩ (.int .i64 4)).setCell ⟨w.heap.size + 1, 1, none⟩ (.int .i64 ((n : Int) + 1 - v))).setCell ⟨w.heap.size + 1, 2, none⟩ (.slice (some ⟨g, 0, none⟩) n cap)) (some ⟨g, 0, none⟩) n f := RIN.set (RIN.set (RIN.set (RIN.set HG.out n1 _ _) n2 _ _) n2 _ _) n2 _ _
      have BX : Below w.heap.size w ((((W.setCell ⟨T, 1, none⟩ (.int .i64 ((n : Int) + 1 - v))).setCell ⟨w.heap.size + 1, 0, none⟩ (.int .i64 4)).setCell ⟨w.heap.size + 1, 1, none⟩ (.int .i64 ((n : Int) + 1 - v))).setCell ⟨w.heap.size + 1, 2, none⟩ (.slice (some ⟨g, 0, none⟩) n cap)) := (((HB.out.setCell (by simp <;> omega) _).setCell (by simp <;> omega) _).setCell (by simp <;> omega) _).setCell (by simp <;> omega) _
      generalize ((((W.setCell ⟨T, 1, none⟩ (.int .i64 ((n : Int) + 1 - v))).setCell ⟨w.heap.size + 1, 0, none⟩ (.int .i64 4)).setCell ⟨w.heap.size + 1, 1, none⟩ (.int .i64 ((n : Int) + 1 - v))).setCell ⟨w.heap.size + 1, 2, none⟩ (.slice (some ⟨g, 0, none⟩) n cap)) = W2 at R GX BX ⊢
      try simp only [Exit.inBlock, Exit.then]
      refine bodyPost_ret (results_gate rfl _ _ _ _ _ _ _ _ rfl R) rfl ?_
      exact ⟨_, cap, rfl, GX, BX⟩
  · obtain ⟨W, hW⟩ : ∃ W, W = w2.alloc (.cells #[.int .i64 k, .int .i64 v, .slice (some ⟨g, 0, none⟩) n cap] 41) := ⟨_, rfl⟩
    have HC : Hid (Cells W w.heap.size [.int .i64 k, .int .i64 v, .slice (some ⟨b, o, none⟩) n c]) := by
      rw [hW]
      exact (X0.out.step HB2.out).alloc _
    have HR : Hid (Cells W (w.heap.size + 1) [.int .i64 0, .int .i64 0, .slice none 0 0]) := by
      rw [hW]
      exact (X1.out.step HB2.out).alloc _
    have HT : Hid (Cells W w2.heap.size [.int .i64 k, .int .i64 v, .slice (some ⟨g, 0, none⟩) n cap]) := by
      rw [hW]
      exact cells_new _ _ _
    have HG : Hid (RIN w.heap.size W (some ⟨g, 0, none⟩) n f) := by
      rw [hW]
      exact (((rin_of HO2.out).mono W0.out.size).step (gbox _ _))
    have HB : Hid (Below w.heap.size w W) := by
      rw [hW]
      exact (W0.out.trans (HB2.out.mono W0.out.size)).alloc (Nat.le_trans W0.out.size HB2.out.size) _
    have n1 : g ≠ w2.heap.size := by have := (HO2.out.lt g rfl).2; omega
    have n2 : g ≠ w.heap.size + 1 := by have := (HO2.out.lt g rfl).1; have := X1.out.lt; omega
    have n6 := X1.out.lt
    have n7 := HB2.out.size
    rw [← hW]
    clear hW HO2 HB2 X0 X1 LA LC LD LF HA y0 y1 y2 x0 x1 x2
    have n3 : w2.heap.size ≠ w.heap.size := by omega
    have n4 : w2.heap.size ≠ w.heap.size + 1 := by omega
    have n5 : w.heap.size < w2.heap.size := by omega
    clear W0 l1 n6 n7
    generalize w2.heap.size = T at *

    have x0 := HC.out.cell 0 _ rfl
    have x1 := HC.out.cell 1 _ rfl
    have x2 := HC.out.cell 2 _ rfl
    have c0 := HT.out.cell 0 _ rfl
    have c1 := HT.out.cell 1 _ rfl
    have c2 := HT.out.cell 2 _ rfl
    have f0 := HT.out.froz 0 _ rfl
    have f1 := HT.out.froz 1 _ rfl
    have f2 := HT.out.froz 2 _ rfl
    have d0 := HR.out.cell 0 _ rfl
    have d1 := HR.out.cell 1 _ rfl
    have d2 := HR.out.cell 2 _ rfl
    have g0 := HR.out.froz 0 _ rfl
    have g1 := HR.out.froz 1 _ rfl
    have g2 := HR.out.froz 2 _ rfl
    have k0 := HC.out.lt
    have k1 := HT.out.lt
    have k2 := HR.out.lt
    have RW : Hid (Cells W (w.heap.size + 1) [.int .i64 0, .int .i64 0, .slice none 0 0]) := HR.out
    have y3 : (n : Int) ≤ 6 := by have := H0.out; omega
    clear HC HT HR i1 i2 i3 i4
    rcases HK.out with ⟨rfl, rfl, rfl⟩ | ⟨rfl, rfl, rfl⟩ | ⟨rfl, rfl, rfl⟩ | ⟨rfl, rfl, rfl, y4, y5⟩
    · clear HK
      go_wp2_with fail
      have R : Cells (((W.setCell ⟨w.heap.size + 1, 0, none⟩ (.int .i64 1)).setCell ⟨w.heap.size + 1, 1, none⟩ (.int .i64 V)).setCell ⟨w.heap.size + 1, 2, none⟩ (.slice (some ⟨g, 0, none⟩) n cap)) (w.heap.size + 1) [.int .i64 1, .int .i64 V, .slice (some ⟨g, 0, none⟩) n cap] := ((RW.out.set (j := 0) (by decide) _).set (j := 1) (by simp) _).set (j := 2) (by simp) _
      have GX : RIN w.heap.size (((W.setCell ⟨w.heap.size + 1, 0, none⟩ (.int .i64 1)).setCell ⟨w.heap.size + 1, 1, none⟩ (.int .i64 V)).setCell ⟨w.heap.size + 1, 2, none⟩ (.slice (some ⟨g, 0, none⟩) n cap)) (some ⟨g, 0, none⟩) n f := RIN.set (RIN.set (RIN.set HG.out n2 _ _) n2 _ _) n2 _ _
      have BX : Below w.heap.size w (((W.setCell ⟨w.heap.size + 1, 0, none⟩ (.int .i64 1)).setCell ⟨w.heap.size + 1, 1, none⟩ (.int .i64 V)).setCell ⟨w.heap.size + 1, 2, none⟩ (.slice (some ⟨g, 0, none⟩) n cap)) := ((HB.out.setCell (by simp <;> omega) _).setCell (by simp <;> omega) _).setCell (by simp <;> omega) _
      generalize (((W.setCell ⟨w.heap.size + 1, 0, none⟩ (.int .i64 1)).setCell ⟨w.heap.size + 1, 1, none⟩ (.int .i64 V)).setCell ⟨w.heap.size + 1, 2, none⟩ (.slice (some ⟨g, 0, none⟩) n cap)) = W2 at R GX BX ⊢
      try simp only [Exit.inBlock, Exit.then]
      refine bodyPost_ret (results_gate rfl _ _ _ _ _ _ _ _ rfl R) rfl ?_
      exact ⟨_, cap, rfl, GX, BX⟩
    · clear HK
      go_wp2_with fail
      have R : Cells ((((W.setCell ⟨T, 0, none⟩ (.int .i64 3)).setCell ⟨w.heap.size + 1, 0, none⟩ (.int .i64 3)).setCell ⟨w.heap.size + 1, 1, none⟩ (.int .i64 V)).setCell ⟨w.heap.size + 1, 2, none⟩ (.slice (some ⟨g, 0, none⟩) n cap)) (w.heap.size + 1) [.int .i64 3, .int .i64 V, .slice (some ⟨g, 0, none⟩) n cap] := (((RW.out.other n4 _).set (j := 0) (by decide) _).set (j := 1) (by simp) _).set (j := 2) (by simp) _
      have GX : RIN w.heap.size ((((W.setCell ⟨T, 0, none⟩ (.int .i64 3)).setCell ⟨w.heap.size + 1, 0, none⟩ (.int .i64 3)).setCell ⟨w.heap.size + 1, 1, none⟩ (.int .i64 V)).setCell ⟨w.heap.size + 1, 2, none⟩ (.slice (some ⟨g, 0, none⟩) n cap)) (some ⟨g, 0, none⟩) n f := RIN.set (RIN.set (RIN.set (RIN.set HG.out n1 _ _) n2 _ _) n2 _ _) n2 _ _
      have BX : Below w.heap.size w ((((W.setCell ⟨T, 0, none⟩ (.int .i64 3)).setCell ⟨w.heap.size + 1, 0, none⟩ (.int .i64 3)).setCell ⟨w.heap.size + 1, 1, none⟩ (.int .i64 V)).setCell ⟨w.heap.size + 1, 2, none⟩ (.slice (some ⟨g, 0, none⟩) n cap)) := (((HB.out.setCell (by simp <;> omega) _).setCell (by simp <;> omega) _).setCell (by simp <;> omega) _).setCell (by simp <;> omega) _
      generalize ((((W.setCell ⟨T, 0, none⟩ (.int .i64 3)).setCell ⟨w.heap.size + 1, 0, none⟩ (.int .i64 3)).setCell ⟨w.heap.size + 1, 1, none⟩ (.int .i64 V)).setCell ⟨w.heap.size + 1, 2, none⟩ (.slice (some ⟨g, 0, none⟩) n cap)) = W2 at R GX BX ⊢
      try simp only [Exit.inBlock, Exit.then]
      refine bodyPost_ret (results_gate rfl _ _ _ _ _ _ _ _ rfl R) rfl ?_
      exact ⟨_, cap, rfl, GX, BX⟩
    · clear HK
      go_wp2_with fail
      have R : Cells ((((W.setCell ⟨T, 0, none⟩ (.int .i64 2)).setCell ⟨w.heap.size + 1, 0, none⟩ (.int .i64 2)).setCell ⟨w.heap.size + 1, 1, none⟩ (.int .i64 V)).setCell ⟨w.heap.size + 1, 2, none⟩ (.slice (some ⟨g, 0, none⟩) n cap)) (w.heap.size + 1) [.int .i64 2, .int .i64 V, .slice (some ⟨g, 0, none⟩) n cap] := (((RW.out.other n4 _).set (j := 0) (by decide) _).set (j := 1) (by simp) _).set (j := 2) (by simp) _
      have GX : RIN w.heap.size ((((W.setCell ⟨T, 0, none⟩ (.int .i64 2)).setCell ⟨w.heap.size + 1, 0, none⟩ (.int .i64 2)).setCell ⟨w.heap.size + 1, 1, none⟩ (.int .i64 V)).setCell ⟨w.heap.size + 1, 2, none⟩ (.slice (some ⟨g, 0, none⟩) n cap)) (some ⟨g, 0, none⟩) n f := RIN.set (RIN.set (RIN.set (RIN.set HG.out n1 _ _) n2 _ _) n2 _ _) n2 _ _
      have BX : Below w.heap.size w ((((W.setCell ⟨T, 0, none⟩ (.int .i64 2)).setCell ⟨w.heap.size + 1, 0, none⟩ (.int .i64 2)).setCell ⟨w.heap.size + 1, 1, none⟩ (.int .i64 V)).setCell ⟨w.heap.size + 1, 2, none⟩ (.slice (some ⟨g, 0, none⟩) n cap)) := (((HB.out.setCell (by simp <;> omega) _).setCell (by simp <;> omega) _).setCell (by simp <;> omega) _).setCell (by simp <;> omega) _
      generalize ((((W.setCell ⟨T, 0, none⟩ (.int .i64 2)).setCell ⟨w.heap.size + 1, 0, none⟩ (.int .i64 2)).setCell ⟨w.heap.size + 1, 1, none⟩ (.int .i64 V)).setCell ⟨w.heap.size + 1, 2, none⟩ (.slice (some ⟨g, 0, none⟩) n cap)) = W2 at R GX BX ⊢
      try simp only [Exit.inBlock, Exit.then]
      refine bodyPost_ret (results_gate rfl _ _ _ _ _ _ _ _ rfl R) rfl ?_
      exact ⟨_, cap, rfl, GX, BX⟩
    · clear HK
      go_wp2_with fail
      have R : Cells ((((W.setCell ⟨T, 1, none⟩ (.int .i64 ((n : Int) + 1 - v))).setCell ⟨w.heap.size + 1, 0, none⟩ (.int .i64 4)).setCell ⟨w.heap.size + 1, 1, none⟩ (.int .i64 ((n : Int) + 1 - v))).setCell ⟨w.heap.size + 1, 2, none⟩ (.slice (some ⟨g, 0, none⟩) n cap)) (w.heap.size + 1) [.int .i64 4, .int .i64 ((n : Int) + 1 - v), .slice (some ⟨g, 0, none⟩) n cap] := (((RW.out.other n4 _).set (j := 0) (by decide) _).set (j := 1) (by simp) _).set (j := 2) (by simp) _
      have GX : RIN w.heap.size ((((W.setCell ⟨T, 1, none⟩ (.int .i64 ((n : Int) + 1 - v))).setCell ⟨w.heap.size + 1, 0, none⟩ (.int .i64 4)).setCell ⟨w.heap.size + 1, 1, none⟩ (.int .i64 ((n : Int) + 1 - v))).setCell ⟨w.heap.size + 1, 2, none⟩ (.slice (some ⟨g, 0, none⟩) n cap)) (some ⟨g, 0, none⟩) n f := RIN.set (RIN.set (RIN.set (RIN.set HG.out n1 _ _) n2 _ _) n2 _ _) n2 _ _
      have BX : Below w.heap.size w ((((W.setCell ⟨T, 1, none⟩ (.int .i64 ((n : Int) + 1 - v))).setCell ⟨w.heap.size + 1, 0, none⟩ (.int .i64 4)).setCell ⟨w.heap.size + 1, 1, none⟩ (.int .i64 ((n : Int) + 1 - v))).setCell ⟨w.heap.size + 1, 2, none⟩ (.slice (some ⟨g, 0, none⟩) n cap)) := (((HB.out.setCell (by simp <;> omega) _).setCell (by simp <;> omega) _).setCell (by simp <;> omega) _).setCell (by simp <;> omega) _
      generalize ((((W.setCell ⟨T, 1, none⟩ (.int .i64 ((n : Int) + 1 - v))).setCell ⟨w.heap.size + 1, 0, none⟩ (.int .i64 4)).setCell ⟨w.heap.size + 1, 1, none⟩ (.int .i64 ((n : Int) + 1 - v))).setCell ⟨w.heap.size + 1, 2, none⟩ (.slice (some ⟨g, 0, none⟩) n cap)) = W2 at R GX BX ⊢
      try simp only [Exit.inBlock, Exit.then]
      refine bodyPost_ret (results_gate rfl _ _ _ _ _ _ _ _ rfl R) rfl ?_
      exact ⟨_, cap, rfl, GX, BX⟩

end Go.Proofs.Ytacophekhknbpaa
