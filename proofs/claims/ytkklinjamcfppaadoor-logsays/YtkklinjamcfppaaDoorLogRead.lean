/-
  Contracts of log.entries and log.Read: a log read from its text. Of the memory that was there nothing turns.
-/
import Derived.Test.YtkklinjamcfppaaDoorEntRead
import Derived.Test.YtkklinjamcfppaaDoorEntPut
namespace Go.Proofs.YtkklinjamcfppaaDoor
open Go.RowKit
set_option linter.unusedVariables false

theorem valE_congr {l m : Nat → En} {n : Nat} (h : ∀ k, k < n → l k = m k) : valE l n = valE m n := by
  unfold valE
  apply List.map_congr_left
  intro j hj
  have := List.mem_range.1 hj
  unfold cellE
  rw [h (j / 4) (by omega)]
theorem valE_more (xs : List En) (x : En) : valE (atE xs) xs.length ++ [.int .i64 x.f, .int .i64 x.l, .int .i64 x.c, .int .i64 x.m] = valE (atE (xs ++ [x])) (xs.length + 1) := by
  have h := valE_add (atE xs) 0 xs.length x
  rw [valE_congr (l := fun t => atE xs (0 + t)) (m := atE xs) (fun k _ => by rw [Nat.zero_add])] at h
  rw [h]
  apply valE_congr
  intro k hk
  unfold addE
  by_cases q : k < xs.length
  · rw [if_pos q, Nat.zero_add, atE_append _ _ q]
  · rw [if_neg q, show k = xs.length by omega, atE_last]
/-- what lies while the lines are gone through -/
structure Es (w : World) (v : Value) (xs : List En) (wr : World) : Prop where
  own : OwE w.heap.size wr v xs.length (atE xs)
  bel : Below w.heap.size w wr
theorem Es.step {w : World} {v : Value} {xs : List En} {wr w' : World} (h : Es w v xs wr) (hb : Below wr.heap.size wr w') : Es w v xs w' :=
  ⟨World.ownsRow.kept (row := none) h.own ⟨hb.os, hb.tape, hb.output, hb.size, fun k hk _ => hb.block k hk⟩ (by cases v.ownBlock <;> simp), below_then h.bel hb h.bel.size⟩

set_option maxHeartbeats 4000000 in
theorem entries_any (l : List UInt8) (w : World) (hl : l.length ≤ 4095) (hv : Vb w) :
    Calls Tryd.prog 28 #[.string (tx l)] w fun e w' => ∃ v, e = .returned (.tuple #[v, .bool (rdP l).isSome]) ∧ (∀ xs, rdP l = some xs → OwE w.heap.size w' v xs.length (atE xs)) ∧ (rdP l = none → v = .slice none 0 0) ∧ Below w.heap.size w w' := by
  have HV : Hid (Vb w) := hv
  have HL : Hid (l.length ≤ 4095) := hl
  have G0 : Hid (rdP l = (rdP l).map ([] ++ ·)) := by
    show rdP l = (rdP l).map ([] ++ ·)
    cases rdP l <;> rfl
  have E0 : Hid (Es w (.slice none 0 0) [] w) := ⟨World.ownsRow_nil _ _ _ _, Below.refl _ _⟩
  clear hv hl
  go_enter Tryd.func28, Tryd.ntmps28
  go_wp2_with fail
  go_loopg [0, 4] (l.length + 1) (fun g s0 s4 wr => ∃ (xs : List En) (s : List UInt8), s0 = .string (tx s) ∧ Hid (s.length < g) ∧ Hid (s.length + xs.length ≤ 4095) ∧ Hid (rdP l = (rdP s).map (xs ++ ·)) ∧ Hid (Es w s4 xs wr))
  case atStart => exact ⟨[], l, rfl, (Nat.lt_succ_self _ : l.length < l.length + 1), (by have := HL.out; simpa using this : l.length + ([] : List En).length ≤ 4095), G0.out, E0.out⟩
  case round =>
    obtain ⟨xs, s, rfl, Hg, Hn, HG, HS⟩ := hrel
    clear G0 E0
    by_cases hs : s = []
    · subst hs
      have hq : (tx []).toList.isEmpty = true := by rw [ByteArray.toList_eq]; rfl
      have HR : Hid (rdP l = some xs) := by
        have := HG.out
        rw [rdP_nil] at this
        show rdP l = some xs
        simpa using this
      clear HG
      go_wp2_with fail
      go_ret2
      refine ⟨_, by rw [HR.out]; rfl, fun ys hy => ?_, fun hn => ?_, HS.out.bel⟩
      · have e := HR.out
        rw [e] at hy
        cases hy
        exact HS.out.own
      · have e := HR.out
        rw [e] at hn
        cases hn
    · have hq : (tx s).toList.isEmpty = false := by
        rw [ByteArray.toList_eq, tx_data]
        simpa using hs
      have HV2 : Hid (Vb wr) := HV.out.step HS.out.bel
      cases he : enP s with
      | none =>
        have HR : Hid (rdP l = none) := by
          have := HG.out
          rw [rdP_bad hs he] at this
          exact this
        have CE : Hid (∀ W, Below wr.heap.size wr W → Calls Tryd.prog 37 #[.string (tx s)] W fun e w' => e = .returned (.tuple #[.agg #[.int .i64 (⟨0, 0, 0, 0⟩ : En).f, .int .i64 (⟨0, 0, 0, 0⟩ : En).l, .int .i64 (⟨0, 0, 0, 0⟩ : En).c, .int .i64 (⟨0, 0, 0, 0⟩ : En).m], .string (tx []), .bool false]) ∧ Below W.heap.size W w') := fun W hW => entry_any s W (by have := Hn.out; omega) (HV2.out.step hW) _ _ _ (Or.inr ⟨rfl, he, rfl, rfl⟩)
        clear HG he
        go_wp2_with fail
        refine (CE.out _ (Below.refl _ _)).mono ?_
        rintro e w1 ⟨rfl, hb1⟩
        have B1 : Hid (_) := HS.out.step hb1
        clear hb1 CE
        go_wp2_with fail
        go_ret2
        exact ⟨_, by rw [HR.out]; rfl, fun ys hy => (by rw [HR.out] at hy; cases hy), fun _ => rfl, B1.out.bel.alloc B1.out.bel.size _⟩
      | some p =>
        obtain ⟨x, r⟩ := p
        have HR : Hid (rdP l = (rdP r).map ((xs ++ [x]) ++ ·)) := by
          show rdP l = (rdP r).map ((xs ++ [x]) ++ ·)
          have := HG.out
          rw [rdP_go he] at this
          rw [this]
          cases rdP r with
          | none => rfl
          | some ys => simp
        have Hl : Hid (r.length < s.length) := enP_less he
        have CE : Hid (∀ W, Below wr.heap.size wr W → Calls Tryd.prog 37 #[.string (tx s)] W fun e w' => e = .returned (.tuple #[.agg #[.int .i64 x.f, .int .i64 x.l, .int .i64 x.c, .int .i64 x.m], .string (tx r), .bool true]) ∧ Below W.heap.size W w') := fun W hW => entry_any s W (by have := Hn.out; omega) (HV2.out.step hW) _ _ _ (Or.inl ⟨rfl, he⟩)
        obtain ⟨i, i1, i2, i3, i4⟩ := infoE
        clear HG he
        go_wp2_with fail
        refine (CE.out _ (Below.refl _ _)).mono ?_
        rintro e w1 ⟨rfl, hb1⟩
        have B1 : Hid (_) := HS.out.step hb1
        clear hb1 CE
        have zn : xs.length ≤ 4095 := by have := Hn.out; omega
        go_wp2_with (at_builtin; refine wpList_append_own _ rfl _ _ 22 rfl w.heap.size 33 i (.agg #[.int .i64 0, .int .i64 0, .int .i64 0, .int .i64 0]) 4 32 Tryd.underlying22 i1 i2 i3 i4 rfl (by omega) _ _ _ rfl ((B1.out.own.alloc _).alloc _) ⟨w1.heap.size + 1, 0, none⟩ 1 _ [.int .i64 x.f, .int .i64 x.l, .int .i64 x.c, .int .i64 x.m] rfl ?qc1 ?qc2 ?qc3 ?qc4 ?qc5 ?qc6 ?_)
        case qc1 => rfl
        case qc2 =>
          have := cells_new (w1.alloc (.cells #[.int .i64 x.f, .int .i64 x.l, .int .i64 x.c, .int .i64 x.m] 33)) #[.int .i64 x.f, .int .i64 x.l, .int .i64 x.c, .int .i64 x.m] 33
          rw [lay_size] at this
          exact four_at this
        case qc3 => exact fun u hu => by simp at hu; rcases hu with rfl | rfl | rfl | rfl <;> rfl
        case qc4 => unfold maxLen; omega
        case qc5 => omega
        case qc6 => have := B1.out.bel.size; simp; omega
        intro v3 w3 hown hgr _
        have L3 : Hid (Es w v3 (xs ++ [x]) w3) := by
          refine ⟨?_, ((B1.out.bel.alloc B1.out.bel.size _).alloc (by have := B1.out.bel.size; simp; omega) _).grown hgr (by have := B1.out.bel.size; simp; omega) (fun k hk => (B1.out.own.lt k hk).1)⟩
          rw [valE_more] at hown
          rw [List.length_append]
          exact hown
        have HZ : Hid (r.length + (xs ++ [x]).length ≤ 4095) := by
          show r.length + (xs ++ [x]).length ≤ 4095
          have h1 := Hn.out
          have h2 := Hl.out
          rw [List.length_append, List.length_singleton]
          omega
        clear hown hgr zn
        go_wp2_with fail
        go_roundg s.length
        case measure => exact Hg.out
        case rel => exact ⟨xs ++ [x], r, rfl, Hl.out, HZ.out, HR.out, L3.out⟩

/-- what Read tells of a text -/
def rdN (l : List UInt8) : Int := if 4095 < l.length then 2 else match rdP l with
  | none => 10
  | some xs => chE (atE xs) xs.length
def rdL (l : List UInt8) : List En := if 4095 < l.length then [] else match rdP l with
  | none => []
  | some xs => if chE (atE xs) xs.length = 0 then xs else []
theorem twoO {α : Type} (o : Option α) : o = none ∨ ∃ x, o = some x := by cases o <;> simp

set_option maxHeartbeats 4000000 in
theorem read_any (l : List UInt8) (w : World) (hl : l.length ≤ 140737488351232) (hv : Vb w) :
    Calls Tryd.prog 11 #[.string (tx l)] w fun e w' => ∃ a c, e = .returned (.tuple #[.slice a (rdL l).length c, .int .i64 (rdN l)]) ∧ NwE w.heap.size w' a (rdL l).length c (atE (rdL l)) ∧ Below w.heap.size w w' := by
  have hsz : (tx l).size = l.length := rfl
  by_cases h4 : 4095 < l.length
  · have HN : Hid (rdN l = 2) := by show rdN l = 2; unfold rdN; rw [if_pos h4]
    have HL : Hid (rdL l = []) := by show rdL l = []; unfold rdL; rw [if_pos h4]
    have z1 : (4095 : Int) < ((tx l).size : Int) := by rw [hsz]; omega
    clear hsz h4 hv hl
    go_enter Tryd.func11, Tryd.ntmps11
    go_wp2_with fail
    go_ret2
    rw [HN.out, HL.out]
    exact ⟨none, 0, rfl, nwE_nil _ _ _, Below.refl _ _⟩
  · have z1 : ¬ (4095 : Int) < ((tx l).size : Int) := by rw [hsz]; omega
    have CE := entries_any l w (by omega) hv
    rcases twoO (rdP l) with hr | ⟨xs, hr⟩
    · have HN : Hid (rdN l = 10) := by show rdN l = 10; unfold rdN; rw [if_neg h4, hr]
      have HL : Hid (rdL l = []) := by show rdL l = []; unfold rdL; rw [if_neg h4, hr]
      rw [hr] at CE
      clear hsz h4 hv hl hr
      go_enter Tryd.func11, Tryd.ntmps11
      go_wp2_with fail
      refine CE.mono ?_
      rintro e w1 ⟨v, rfl, _, _, hb⟩
      have B1 : Hid (_) := hb
      clear hb CE
      go_wp2_with fail
      go_ret2
      rw [HN.out, HL.out]
      exact ⟨none, 0, rfl, nwE_nil _ _ _, B1.out⟩
    · rw [hr] at CE
      obtain ⟨E, hE⟩ : ∃ E, chE (atE xs) xs.length = E := ⟨_, rfl⟩
      have HN : Hid (rdN l = E) := by
        show rdN l = E
        unfold rdN
        rw [if_neg h4, hr]
        exact hE
      have HL : Hid (rdL l = if E = 0 then xs else []) := by
        show rdL l = _
        unfold rdL
        rw [if_neg h4, hr]
        show (if chE (atE xs) xs.length = 0 then xs else []) = _
        rw [hE]
      have HC : Hid (chE (atE xs) xs.length = E) := hE
      clear hsz h4 hv hl hr hE
      go_enter Tryd.func11, Tryd.ntmps11
      go_wp2_with fail
      refine CE.mono ?_
      rintro e w1 ⟨v, rfl, ho, _, hb⟩
      have B1 : Hid (_) := hb
      obtain ⟨a, c, rfl, hN⟩ := OwE.nw (ho xs rfl)
      have N1 : Hid (_) := hN
      clear hb CE ho hN
      go_wp2_with fail
      refine (check_any a xs.length c (atE xs) w1 N1.out.row).mono ?_
      rintro e w2 ⟨rfl, hb⟩
      have N2 : Hid (_) := N1.out.step hb
      have B2 : Hid (Below w.heap.size w w2) := below_then B1.out hb B1.out.size
      clear hb N1 B1
      rw [HC.out]
      by_cases e0 : E = 0
      · subst e0
        have HL2 : Hid (rdL l = xs) := by
          have := HL.out
          rw [if_pos rfl] at this
          exact this
        clear HL
        go_wp2_with fail
        go_ret2
        rw [HN.out, HL2.out]
        exact ⟨a, c, rfl, N2.out, B2.out⟩
      · have q : (E != 0) = true := by simpa using e0
        have HL2 : Hid (rdL l = []) := by
          have := HL.out
          rw [if_neg e0] at this
          exact this
        clear HL
        go_wp2_with fail
        go_ret2
        rw [HN.out, HL2.out]
        exact ⟨none, 0, rfl, nwE_nil _ _ _, B2.out⟩

end Go.Proofs.YtkklinjamcfppaaDoor
