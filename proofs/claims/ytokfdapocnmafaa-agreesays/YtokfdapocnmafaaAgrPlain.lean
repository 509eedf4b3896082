/-
  Plain facts on four lanes of which one may lie: what a talk is; who is odd to whom; what is taken for whose number.
-/
import Derived.Test.YtokfdapocnmafaaAgrTold
import Derived.Test.YtokfdapocnmafaaAgrOdd
namespace Go.Proofs.Ytokfdapocnmafaa
open Go.RowKit
set_option linter.unusedVariables false

/-- the talk -/
def gG (v s D : Nat → Int) (L : Int) : Nat → Int := fun p =>
  if p < 16 then (if ((p / 4 : Nat) : Int) = L ∧ p % 4 ≠ p / 4 then s (p % 4) else v (p / 4))
  else if (((p - 16) / 4 % 4 : Nat) : Int) = L then D ((p - 16) / 16 * 4 + p % 4) else (if (((p - 16) / 16 : Nat) : Int) = L ∧ (p - 16) / 4 % 4 ≠ (p - 16) / 16 then s ((p - 16) / 4 % 4) else v ((p - 16) / 16))
theorem gG_said (v s D : Nat → Int) (L : Int) (i j : Nat) (hi : i < 4) (hj : j < 4) : gG v s D L (i * 4 + j) = if (i : Int) = L ∧ j ≠ i then s j else v i := by
  have a : (i * 4 + j) / 4 = i := by omega
  have b : (i * 4 + j) % 4 = j := by omega
  unfold gG
  rw [if_pos (by omega), a, b]
theorem gG_tk (v s D : Nat → Int) (L : Int) : Tk v s D L (gG v s D L) := by
  refine ⟨gG_said v s D L, fun i j k hi hj hk => ?_⟩
  rw [gG_said v s D L i j hi hj]
  have a : (16 + i * 16 + j * 4 + k - 16) / 16 = i := by omega
  have b : (16 + i * 16 + j * 4 + k - 16) / 4 % 4 = j := by omega
  have c : (16 + i * 16 + j * 4 + k) % 4 = k := by omega
  unfold gG
  rw [if_neg (by omega), a, b, c]
/-- the two others are two, and neither -/
theorem oth_ok {i k : Nat} (hi : i < 4) (hk : k < 4) (h : i ≠ k) : oth1 i k ≠ i ∧ oth1 i k ≠ k ∧ oth2 i k ≠ i ∧ oth2 i k ≠ k ∧ oth1 i k ≠ oth2 i k := by
  obtain rfl | rfl | rfl | rfl := four hi <;> obtain rfl | rfl | rfl | rfl := four hk <;> first | exact absurd rfl h | decide
/-- who doesn't lie tells what it was told; so it gainsays nobody that doesn't lie -/
theorem tk_gs {v s D G : Nat → Int} {L : Int} (h : Tk v s D L G) {a i k : Nat} (ha : a < 4) (hi : i < 4) (hk : k < 4) (h1 : (i : Int) ≠ L) (h2 : (a : Int) ≠ L) : gs G a i k = false := by
  have e1 : told G a i k = v a := by
    show G (16 + a * 16 + i * 4 + k) = _
    rw [h.told a i k ha hi hk, if_neg h1, h.said a i ha hi, if_neg (fun q => h2 q.1)]
  have e2 : said G a k = v a := by
    show G (a * 4 + k) = _
    rw [h.said a k ha hk, if_neg (fun q => h2 q.1)]
  unfold gs
  rw [e1, e2]
  simp
theorem tk_fair {v s D G : Nat → Int} {L : Int} (h : Tk v s D L G) {i k : Nat} (hi : i < 4) (hk : k < 4) (h1 : (i : Int) ≠ L) (h2 : (k : Int) ≠ L) : od G k i = false := by
  by_cases e : i = k
  · simp [od, e]
  · have hl := oth_lt i k
    have ho := oth_ok hi hk e
    have q : gs G (oth1 i k) i k = false ∨ gs G (oth2 i k) i k = false := by
      by_cases e1 : (oth1 i k : Int) = L
      · right
        exact tk_gs h hl.2 hi hk h1 (by omega)
      · left
        exact tk_gs h hl.1 hi hk h1 e1
    unfold od gb
    rcases q with q | q <;> simp [q]

/-- four numbers as a row -/
def r4 (a b c d : Int) : Nat → Int := fun j => if j = 0 then a else if j = 1 then b else if j = 2 then c else d
/-- one lane told two lies, another one -/
def badT (G : Nat → Int) : Nat → Int := upd (upd (upd G 22 9) 70 9) 30 9
theorem bad_odd {s D G : Nat → Int} (h : Tk (r4 1 2 3 4) s D (-1) G) : od (badT G) 2 0 = false ∧ od (badT G) 2 1 = true ∧ od (badT G) 2 2 = false ∧ od (badT G) 2 3 = false := by
  have S : ∀ i j, i < 4 → j < 4 → G (i * 4 + j) = r4 1 2 3 4 i := fun i j hi hj => by rw [h.said i j hi hj, if_neg (by omega)]
  have T : ∀ i j k, i < 4 → j < 4 → k < 4 → G (16 + i * 16 + j * 4 + k) = r4 1 2 3 4 i := fun i j k hi hj hk => by rw [h.told i j k hi hj hk, if_neg (by omega), S i j hi hj]
  have s0 : said (badT G) 0 2 = 1 := S 0 2 (by omega) (by omega)
  have s1 : said (badT G) 1 2 = 2 := S 1 2 (by omega) (by omega)
  have s3 : said (badT G) 3 2 = 4 := S 3 2 (by omega) (by omega)
  have t102 : told (badT G) 1 0 2 = 2 := T 1 0 2 (by omega) (by omega) (by omega)
  have t012 : told (badT G) 0 1 2 = 9 := rfl
  have t312 : told (badT G) 3 1 2 = 9 := rfl
  have t132 : told (badT G) 1 3 2 = 2 := T 1 3 2 (by omega) (by omega) (by omega)
  refine ⟨?_, ?_, ?_, ?_⟩
  · show (!(decide (0 = 2)) && (!(told (badT G) 1 0 2 == said (badT G) 1 2) && !(told (badT G) 3 0 2 == said (badT G) 3 2))) = false
    rw [t102, s1]; rfl
  · show (!(decide (1 = 2)) && (!(told (badT G) 0 1 2 == said (badT G) 0 2) && !(told (badT G) 3 1 2 == said (badT G) 3 2))) = true
    rw [t012, t312, s0, s3]; rfl
  · rfl
  · show (!(decide (3 = 2)) && (!(told (badT G) 0 3 2 == said (badT G) 0 2) && !(told (badT G) 1 3 2 == said (badT G) 1 2))) = false
    rw [t132, s1]; exact Bool.and_false _

/-- what a law on four lanes was handed, in boxes -/
structure Ax (w : World) (v s D : Nat → Int) (wr : World) : Prop where
  bv : RB wr w.heap.size 4 v
  bs : RB wr (w.heap.size + 1) 4 s
  bd : RB wr (w.heap.size + 1 + 1) 16 D
  bel : Below w.heap.size w wr
  sz : w.heap.size + 1 + 1 < wr.heap.size
theorem Ax.step {w w1 w2 : World} {v s D : Nat → Int} (h : Ax w v s D w1) (hb : Below w1.heap.size w1 w2) : Ax w v s D w2 := ⟨Blk.step h.bv hb, Blk.step h.bs hb, Blk.step h.bd hb, h.bel.trans (hb.mono h.bel.size), Nat.lt_of_lt_of_le h.sz hb.size⟩
theorem Ax.alloc {w w1 : World} {v s D : Nat → Int} (h : Ax w v s D w1) (x : Obj) : Ax w v s D (w1.alloc x) := h.step ((Below.refl _ w1).alloc (Nat.le_refl _) _)
theorem Ax.set {w w1 : World} {v s D : Nat → Int} (h : Ax w v s D w1) {b : Nat} (hb : w.heap.size + 1 + 1 < b) (j : Nat) (x : Value) : Ax w v s D (w1.setCell ⟨b, j, none⟩ x) :=
  ⟨Blk.other h.bv (by omega) _, Blk.other h.bs (by omega) _, Blk.other h.bd (by omega) _, h.bel.setCell (p := ⟨b, j, none⟩) (by show _ ≤ b; omega) _, by simp [World.setCell]; exact h.sz⟩
theorem Ax.setAll {w w1 : World} {v s D : Nat → Int} (h : Ax w v s D w1) {b : Nat} (hb : w.heap.size + 1 + 1 < b) (vs : List Value) : Ax w v s D (w1.setCells b 0 vs) :=
  ⟨Blk.setOther h.bv (by omega) _, Blk.setOther h.bs (by omega) _, Blk.setOther h.bd (by omega) _, below_setCells (by omega) _ _ _ h.bel, by rw [size_setCells]; exact h.sz⟩
theorem ax_new (w : World) (v s D : Nat → Int) (t1 t2 t3 : TypeId) : Ax w v s D (((w.alloc (.cells #[.int .i32 (v 0), .int .i32 (v 1), .int .i32 (v 2), .int .i32 (v 3)] t1)).alloc (.cells #[.int .i32 (s 0), .int .i32 (s 1), .int .i32 (s 2), .int .i32 (s 3)] t2)).alloc (.cells (t16 D) t3)) := by
  have h1 := rb4_new w v t1
  obtain ⟨w1, e1⟩ : ∃ w1, w1 = w.alloc (.cells #[.int .i32 (v 0), .int .i32 (v 1), .int .i32 (v 2), .int .i32 (v 3)] t1) := ⟨_, rfl⟩
  rw [← e1] at h1 ⊢
  have s1 : w1.heap.size = w.heap.size + 1 := by rw [e1]; simp
  have b1 : Below w.heap.size w w1 := by rw [e1]; exact (Below.refl _ w).alloc (Nat.le_refl _) _
  have h2 := rb4_new w1 s t2
  obtain ⟨w2, e2⟩ : ∃ w2, w2 = w1.alloc (.cells #[.int .i32 (s 0), .int .i32 (s 1), .int .i32 (s 2), .int .i32 (s 3)] t2) := ⟨_, rfl⟩
  rw [← e2] at h2 ⊢
  have s2 : w2.heap.size = w1.heap.size + 1 := by rw [e2]; simp
  have b2 : Below w1.heap.size w1 w2 := by rw [e2]; exact (Below.refl _ w1).alloc (Nat.le_refl _) _
  have h3 := rb16_new w2 D t3
  rw [s2, s1] at h3
  rw [s1] at h2
  exact ⟨(Blk.step h1 b2).alloc _, Blk.alloc h2 _, h3, (b1.trans (b2.mono (by omega))).alloc (by omega) _, by simp; omega⟩
theorem RB.load16 {w : World} {b : Nat} {D : Nat → Int} (h : RB w b 16 D) : (Instr.loadAt 23 (.pointer (some ⟨b, 0, none⟩))).run Try.prog w = .ok (.agg (t16 D)) w := by
  have := run_loadAt_mid (P := Try.prog) w b 0 23 (t16 D).toList _ (fun j v hj => by
    rw [Array.getElem?_toList] at hj
    have hl : j < 16 := by
      have := (Array.getElem?_eq_some_iff.1 hj).1
      rwa [t16_size] at this
    rw [t16_get D hl] at hj
    cases hj
    rw [Nat.zero_add]
    exact h.cell j hl) Try.underlying23 rfl (by rw [Array.length_toList, t16_size]; kernel_rfl)
  simpa using this
theorem wpList_load_16 {ops : Array Oper} {rest : List Oper} {op : Oper} {a : Act} {w : World} {Q : Exit → Act → World → Prop} (hgd : op.guard = none) (x : Operand) (ho : op.op = .load 23 x) (b : Nat) (hx : a.eval x = .pointer (some ⟨b, 0, none⟩)) (D : Nat → Int) (hD : RB w b 16 D) (h : wpList Try.prog ops Q rest (a.put op.dst (.agg (t16 D))) w) : wpList Try.prog ops Q (op :: rest) a w := by
  refine wpList_plain hgd fun _ hK => ?_
  unfold Oper.wp execOp
  simp only [ho, hx, Sem.run_bind, hD.load16, Result.andThen_ok, Sem.run_pure]
  exact hK _ _ h

end Go.Proofs.Ytokfdapocnmafaa
