/-
  Contract of the document's LogPut: what Put tells.
-/
import Derived.Test.YtkklinjamcfppaaDoorRLogErr
namespace Go.Proofs.YtkklinjamcfppaaDoor
open Go.RowKit
set_option linter.unusedVariables false

/-- what LogPut tells: as many as that, somewhere -/
def RPutTells (w : World) (E : Int) (N : Nat) (L : Nat → En) (e : Ending) (w' : World) : Prop := ∃ a' c', e = .returned (.tuple #[.slice a' N c', .int .i64 E]) ∧ RowE w' a' N L ∧ Below w.heap.size w w'
theorem rowE_congr {w : World} {a : Option Addr} {n : Nat} {l m : Nat → En} (h : RowE w a n l) (he : ∀ k, k < n → l k = m k) : RowE w a n m := fun hn => by
  obtain ⟨b, o, rfl, h1, h2⟩ := h hn
  exact ⟨b, o, rfl, h1, fun j hj => by rw [← he j hj]; exact h2 j hj⟩
theorem rowE_none (w : World) (a : Option Addr) (l : Nat → En) : RowE w a 0 l := fun h => absurd h (by omega)
theorem OwE.step {N : Nat} {w w' : World} {v : Value} {n : Nat} {l : Nat → En} (h : OwE N w v n l) (hb : Below w.heap.size w w') : OwE N w' v n l :=
  World.ownsRow.kept (row := none) h ⟨hb.os, hb.tape, hb.output, hb.size, fun k hk _ => hb.block k hk⟩ (by cases v.ownBlock <;> simp)

set_option maxHeartbeats 4000000 in
theorem rput_bad (a : Option Addr) (n c : Nat) (l : Nat → En) (f la co : Int) (w : World) (h : RowE w a n l) (E : Int) (hE : chE l n = E) (h0 : E ≠ 0) :
    Calls Tryd.prog 8 #[.slice a n c, .int .i64 f, .int .i64 la, .int .i64 co] w fun e w' => e = .returned (.tuple #[.slice none 0 0, .int .i64 E]) ∧ Below w.heap.size w w' := by
  have C := rlogErr_any a n c l w h
  rw [hE] at C
  have q : (E != 0) = true := by simpa using h0
  clear h hE
  go_enter Tryd.func8, Tryd.ntmps8
  go_wp2_with fail
  refine C.mono ?_
  rintro e w1 ⟨rfl, hb⟩
  have B1 : Hid (_) := hb
  clear hb C
  go_wp2_with fail
  go_ret2
  exact ⟨rfl, B1.out⟩

set_option maxHeartbeats 4000000 in
theorem rput_arg (a : Option Addr) (n c : Nat) (l : Nat → En) (f la co : Int) (w : World) (h : RowE w a n l) (hE : chE l n = 0) (h1 : okE ⟨f, la, co, 1⟩ = false) :
    Calls Tryd.prog 8 #[.slice a n c, .int .i64 f, .int .i64 la, .int .i64 co] w fun e w' => e = .returned (.tuple #[.slice none 0 0, .int .i64 1]) ∧ Below w.heap.size w w' := by
  have C := rlogErr_any a n c l w h
  rw [hE] at C
  have CE : Hid (∀ W, Calls Tryd.prog 19 #[.agg #[.int .i64 (⟨f, la, co, 1⟩ : En).f, .int .i64 (⟨f, la, co, 1⟩ : En).l, .int .i64 (⟨f, la, co, 1⟩ : En).c, .int .i64 (⟨f, la, co, 1⟩ : En).m]] W fun e w' => e = .returned (.int .i64 1) ∧ Below W.heap.size W w') := fun W => by
    have := entryErr_any ⟨f, la, co, 1⟩ W
    rw [show eE ⟨f, la, co, 1⟩ = 1 by unfold eE; rw [h1]; rfl] at this
    exact this
  clear h hE h1
  go_enter Tryd.func8, Tryd.ntmps8
  go_wp2_with fail
  refine C.mono ?_
  rintro e w1 ⟨rfl, hb⟩
  have B1 : Hid (_) := hb
  clear hb C
  go_wp2_with fail
  refine (CE.out _).mono ?_
  rintro e w2 ⟨rfl, hb⟩
  have B2 : Hid (Below w.heap.size w w2) := below_then (B1.out.alloc B1.out.size _) hb (by have := B1.out.size; simp; omega)
  clear hb CE
  go_wp2_with fail
  go_ret2
  exact ⟨rfl, B2.out⟩

set_option maxHeartbeats 8000000 in
set_option maxRecDepth 100000 in
theorem rput_go (a : Option Addr) (n c : Nat) (l : Nat → En) (f la co : Int) (w : World) (h : RowE w a n l) (hz : a = none → c = 0) (hE : chE l n = 0) (h1 : okE ⟨f, la, co, 1⟩ = true) (E : Int) (N : Nat) (L : Nat → En)
    (hEN : putR l n ⟨f, la, co, 1⟩ = E) (hN : (if putR l n ⟨f, la, co, 1⟩ = 0 then putN l n ⟨f, la, co, 1⟩ else 0) = N) (hL : putL l n ⟨f, la, co, 1⟩ = L) :
    Calls Tryd.prog 8 #[.slice a n c, .int .i64 f, .int .i64 la, .int .i64 co] w fun e w' => RPutTells w E N L e w' := by
  show Calls Tryd.prog 8 #[.slice a n c, .int .i64 f, .int .i64 la, .int .i64 co] w fun e w' => ∃ a' c', e = .returned (.tuple #[.slice a' N c', .int .i64 E]) ∧ RowE w' a' N L ∧ Below w.heap.size w w'
  have C := rlogErr_any a n c l w h
  rw [hE] at C
  have hn := (chE_zero hE).1
  have HM : Hid (∀ m, n = m + 1 → 1 ≤ (l m).m ∧ (l m).m ≤ 9999) := fun m hm => ((okE_iff _).1 (fsE_zero (chE_zero hE).2 (k := m) (by omega)).1).2.2.2
  have HR : Hid (RowE w a n l) := h
  have CE : Hid (∀ W, Calls Tryd.prog 19 #[.agg #[.int .i64 (⟨f, la, co, 1⟩ : En).f, .int .i64 (⟨f, la, co, 1⟩ : En).l, .int .i64 (⟨f, la, co, 1⟩ : En).c, .int .i64 (⟨f, la, co, 1⟩ : En).m]] W fun e w' => e = .returned (.int .i64 0) ∧ Below W.heap.size W w') := fun W => by
    have := entryErr_any ⟨f, la, co, 1⟩ W
    rw [show eE ⟨f, la, co, 1⟩ = 0 by unfold eE; rw [h1]; rfl] at this
    exact this
  have HP : Hid (putR l n ⟨f, la, co, 1⟩ = (if n ≠ 0 ∧ f < (l (n - 1)).f then 6 else 0)) := by
    show putR l n ⟨f, la, co, 1⟩ = _
    unfold putR
    rw [hE, h1]
    simp
  have HEN : Hid (_) := hEN
  have HN : Hid (_) := hN
  have HL : Hid (_) := hL
  clear h hE h1 hEN hN hL
  obtain ⟨i, i1, i2, i3, i4⟩ := infoE
  cases a with
  | none =>
    obtain rfl : c = 0 := hz rfl
    obtain rfl : n = 0 := by
      rcases Nat.eq_zero_or_pos n with q | q
      · exact q
      · obtain ⟨_, _, e, _⟩ := HR.out q
        cases e
    obtain rfl : E = 0 := HEN.out.symm.trans (HP.out.trans (if_neg (fun k => k.1 rfl)))
    obtain rfl : N = 1 := HN.out.symm.trans ((if_pos HEN.out).trans rfl)
    obtain rfl : L = fun _ => ⟨f, la, co, 1⟩ := HL.out.symm
    clear hz HM HP HEN HN HL HR
    go_enter Tryd.func8, Tryd.ntmps8
    go_wp2_with fail
    refine C.mono ?_
    rintro e w1 ⟨rfl, hb⟩
    have B1 : Hid (_) := hb
    clear hb C
    go_wp2_with fail
    have X1 := cells_new w1 #[.int .i64 (⟨f, la, co, 1⟩ : En).f, .int .i64 (⟨f, la, co, 1⟩ : En).l, .int .i64 (⟨f, la, co, 1⟩ : En).c, .int .i64 (⟨f, la, co, 1⟩ : En).m] 33
    refine (CE.out _).mono ?_
    rintro e w2 ⟨rfl, hb⟩
    have B2 : Hid (Below w.heap.size w w2) := below_then (B1.out.alloc B1.out.size _) hb (by have := B1.out.size; simp; omega)
    have X2 : Hid (_) := X1.step hb
    clear hb CE X1
    have x0 := X2.out.cell 0 _ rfl
    have x1 := X2.out.cell 1 _ rfl
    have x2 := X2.out.cell 2 _ rfl
    have x3 := X2.out.cell 3 _ rfl
    go_wp2_with (at_builtin; refine wpList_append_own _ rfl _ _ 22 rfl w.heap.size 33 i (.agg #[.int .i64 0, .int .i64 0, .int .i64 0, .int .i64 0]) 4 32 Tryd.underlying22 i1 i2 i3 i4 rfl (by omega) _ _ _ rfl (World.ownsRow_nil _ _ _ _) ⟨w2.heap.size, 0, none⟩ 1 1 [.int .i64 (⟨f, la, co, 1⟩ : En).f, .int .i64 (⟨f, la, co, 1⟩ : En).l, .int .i64 (⟨f, la, co, 1⟩ : En).c, .int .i64 (⟨f, la, co, 1⟩ : En).m] rfl ?qa1 ?qa2 ?qa3 ?qa4 ?qa5 ?qa6 ?_)
    case qa3 => exact ⟨rfl, rfl, rfl, rfl⟩
    case qa4 => unfold maxLen; omega
    case qa5 => omega
    case qa6 => have := B2.out.size; simp; omega
    intro v3 w3 hown hgr _
    have L3 : Hid (OwE w.heap.size w3 v3 1 (fun _ => ⟨f, la, co, 1⟩)) := hown
    have B3 : Hid (Below w.heap.size w w3) := (B2.out.alloc B2.out.size _).grown hgr (by have := B2.out.size; simp; omega) (by intro k hk; simp [Value.ownBlock] at hk)
    clear hown hgr x0 x1 x2 x3
    obtain ⟨a', c', rfl, hN⟩ := OwE.nw L3.out
    have N3 : Hid (_) := hN.row
    clear hN L3
    go_wp2_with fail
    go_ret2
    exact ⟨a', ⟨c', rfl⟩, N3.out, B3.out⟩
  | some ad =>
    have HLC : Hid (∀ j u, (valE l n)[j]? = some u → w.cell? (ad.add j) = some u) := fun j u hu => by
      obtain ⟨hj, rfl⟩ := valE_at hu
      obtain ⟨b, o, e, _, hc⟩ := HR.out (by omega)
      cases e
      rw [Addr.add_lit]
      exact eat_cell hc hj
    have HLB : Hid (∀ W, Below w.heap.size w W → ∀ j u, (valE l n)[j]? = some u → W.cell? (ad.add j) = some u) := fun W hW j u hu => by
      obtain ⟨hj, rfl⟩ := valE_at hu
      obtain ⟨b, o, e, h1, hc⟩ := HR.out (by omega)
      cases e
      rw [Addr.add_lit]
      exact (hW.cell (p := ⟨b, o + j, none⟩) h1).trans (eat_cell hc hj)
    clear HLC hz
    go_enter Tryd.func8, Tryd.ntmps8
    go_wp2_with fail
    refine C.mono ?_
    rintro e w1 ⟨rfl, hb⟩
    have B1 : Hid (_) := hb
    clear hb C
    go_wp2_with fail
    have X1 := cells_new w1 #[.int .i64 (⟨f, la, co, 1⟩ : En).f, .int .i64 (⟨f, la, co, 1⟩ : En).l, .int .i64 (⟨f, la, co, 1⟩ : En).c, .int .i64 (⟨f, la, co, 1⟩ : En).m] 33
    refine (CE.out _).mono ?_
    rintro e w2 ⟨rfl, hb⟩
    have B2 : Hid (Below w.heap.size w w2) := below_then (B1.out.alloc B1.out.size _) hb (by have := B1.out.size; simp; omega)
    have X2 : Hid (_) := X1.step hb
    clear hb CE X1
    have x0 := X2.out.cell 0 _ rfl
    have x1 := X2.out.cell 1 _ rfl
    have x2 := X2.out.cell 2 _ rfl
    have x3 := X2.out.cell 3 _ rfl
    go_wp2_with (at_builtin; refine wpList_append_own _ rfl _ _ 22 rfl w.heap.size 33 i (.agg #[.int .i64 0, .int .i64 0, .int .i64 0, .int .i64 0]) 4 32 Tryd.underlying22 i1 i2 i3 i4 rfl (by omega) _ _ _ rfl (World.ownsRow_nil _ _ _ _) ad n c (valE l n) rfl ?qb1 ?qb2 ?qb3 ?qb4 ?qb5 ?qb6 ?_)
    case qb1 => rw [valE_length]
    case qb2 => exact HLB.out _ B2.out
    case qb3 => exact fun u hu => valE_one hu
    case qb4 => unfold maxLen; omega
    case qb5 => omega
    case qb6 => exact B2.out.size
    intro v3 w3 hown hgr _
    have L3 : Hid (OwE w.heap.size w3 v3 n l) := by
      show w3.ownsRow w.heap.size 33 4 v3 n (valE l n)
      simpa using hown
    have hb3 : Below w2.heap.size w2 w3 := (Below.refl _ w2).grown hgr (Nat.le_refl _) (by intro k hk; simp [Value.ownBlock] at hk)
    have B3 : Hid (Below w.heap.size w w3) := below_then B2.out hb3 B2.out.size
    have X3 : Hid (_) := X2.out.step hb3
    clear hown hgr x0 x1 x2 x3 hb3 X2 B2
    have x0 := X3.out.cell 0 _ rfl
    have x1 := X3.out.cell 1 _ rfl
    have x2 := X3.out.cell 2 _ rfl
    have x3 := X3.out.cell 3 _ rfl
    rcases Nat.eq_zero_or_pos n with q | q
    · subst q
      obtain rfl : E = 0 := HEN.out.symm.trans (HP.out.trans (if_neg (fun k => k.1 rfl)))
      obtain rfl : N = 1 := HN.out.symm.trans ((if_pos HEN.out).trans rfl)
      obtain rfl : L = fun _ => ⟨f, la, co, 1⟩ := HL.out.symm
      clear HM HP HEN HN HL HR HLB
      obtain ⟨a3, c3, rfl, hN3⟩ := OwE.nw L3.out
      clear hN3
      go_wp2_with (at_builtin; refine wpList_append_own _ rfl _ _ 22 rfl w.heap.size 33 i (.agg #[.int .i64 0, .int .i64 0, .int .i64 0, .int .i64 0]) 4 32 Tryd.underlying22 i1 i2 i3 i4 rfl (by omega) _ _ _ rfl (World.ownsRow.alloc L3.out _) ⟨w3.heap.size, 0, none⟩ 1 1 [.int .i64 (⟨f, la, co, 1⟩ : En).f, .int .i64 (⟨f, la, co, 1⟩ : En).l, .int .i64 (⟨f, la, co, 1⟩ : En).c, .int .i64 (⟨f, la, co, 1⟩ : En).m] rfl ?qd1 ?qd2 ?qd3 ?qd4 ?qd5 ?qd6 ?_)
      case qd3 => exact ⟨rfl, rfl, rfl, rfl⟩
      case qd4 => unfold maxLen; omega
      case qd6 => have := B3.out.size; simp; omega
      intro v4 w4 hown hgr _
      have L4 : Hid (OwE w.heap.size w4 v4 1 (fun _ => ⟨f, la, co, 1⟩)) := by
        have h2 : w4.ownsRow w.heap.size 33 4 v4 (0 + 1) (valE l 0 ++ [.int .i64 (⟨f, la, co, 1⟩ : En).f, .int .i64 (⟨f, la, co, 1⟩ : En).l, .int .i64 (⟨f, la, co, 1⟩ : En).c, .int .i64 (⟨f, la, co, 1⟩ : En).m]) := hown
        have e : valE l 0 ++ [.int .i64 (⟨f, la, co, 1⟩ : En).f, .int .i64 (⟨f, la, co, 1⟩ : En).l, .int .i64 (⟨f, la, co, 1⟩ : En).c, .int .i64 (⟨f, la, co, 1⟩ : En).m] = valE (fun _ => ⟨f, la, co, 1⟩) 1 := rfl
        rw [e] at h2
        exact h2
      have B4 : Hid (Below w.heap.size w w4) := (B3.out.alloc B3.out.size _).grown hgr (by have := B3.out.size; simp; omega) (fun k hk => (World.ownsRow.lt L3.out k hk).1)
      clear hown hgr x0 x1 x2 x3
      obtain ⟨a', c', rfl, hN⟩ := OwE.nw L4.out
      have N4 : Hid (_) := hN.row
      clear hN L4
      go_wp2_with fail
      go_ret2
      exact ⟨a', ⟨c', rfl⟩, N4.out, B4.out⟩
    · obtain ⟨m, rfl⟩ : ∃ m, n = m + 1 := ⟨n - 1, by omega⟩
      obtain ⟨g, cap, rfl, hg, hcl⟩ := World.ownsRow.form L3.out (by omega)
      obtain ⟨y0, y1, y2, y3⟩ := OwE.eat L3.out (q := m) (by omega)
      have nE : putN l (m + 1) ⟨f, la, co, 1⟩ = (if alB ⟨f, la, co, 1⟩ (l m) = true then m + 1 else if m + 1 = 32 then 32 else m + 1 + 1) := by unfold putN; rw [if_neg (show ¬ m + 1 = 0 by omega)]; rfl
      have lE : putL l (m + 1) ⟨f, la, co, 1⟩ = (if alB ⟨f, la, co, 1⟩ (l m) = true then setE l m (moreE (l m)) else if m + 1 = 32 then addE l 1 31 ⟨f, la, co, 1⟩ else addE l 0 (m + 1) ⟨f, la, co, 1⟩) := by unfold putL; rw [if_neg (show ¬ m + 1 = 0 by omega)]; rfl
      have rE : putR l (m + 1) ⟨f, la, co, 1⟩ = (if f < (l m).f then 6 else 0) := by
        rw [HP.out]
        by_cases k : f < (l m).f
        · rw [if_pos k, if_pos ⟨by omega, k⟩]
        · rw [if_neg k, if_neg (fun q => k q.2)]
      obtain ⟨m0, m1⟩ := HM.out m rfl
      by_cases e2 : f < (l m).f
      · rw [if_pos e2] at rE
        obtain rfl : E = 6 := HEN.out.symm.trans rE
        obtain rfl : N = 0 := HN.out.symm.trans (if_neg (by rw [rE]; decide))
        clear HM HP HEN HN HL HR HLB nE lE rE
        go_wp2_with fail
        go_ret2
        exact ⟨none, 0, rfl, rowE_none _ _ _, B3.out⟩
      · rw [if_neg e2] at rE
        obtain rfl : E = 0 := HEN.out.symm.trans rE
        have hN2 := HN.out.symm.trans ((if_pos rE).trans nE)
        have hL2 := HL.out.symm.trans lE
        rcases twoB (alB ⟨f, la, co, 1⟩ (l m)) with e3 | e3
        · have key : ((l m).l == la) = false ∨ ((l m).l == la) = true ∧ ((l m).c == co) = false := by
            unfold alB at e3
            by_cases k1 : (l m).l = la
            · right
              refine ⟨by simpa using k1, ?_⟩
              have k3 : ¬ co = (l m).c := by simpa [k1] using e3
              simpa using fun k => k3 k.symm
            · left
              simpa using k1
          have e5 : ¬ alB ⟨f, la, co, 1⟩ (l m) = true := by rw [e3]; decide
          rw [if_neg e5] at hN2 hL2
          have HE2 : Hid (∀ (W : World) (v : Value), OwE w.heap.size W v (m + 1 + 1) (addE l 0 (m + 1) ⟨f, la, co, 1⟩) → m + 1 = 32 → ∃ g' cap', v = .slice (some ⟨g', 0, none⟩) 33 cap' ∧ 33 ≤ cap' ∧ RowE W (some ⟨g', 4, none⟩) 32 (addE l 1 31 ⟨f, la, co, 1⟩)) := fun W v hv h32 => by
            obtain ⟨g', cap', rfl, hg', hc'⟩ := World.ownsRow.form hv (by omega)
            have hle : m + 1 + 1 ≤ cap' := by
              obtain ⟨a2, c2, e, hN⟩ := OwE.nw hv
              simp only [Value.slice.injEq] at e
              obtain ⟨_, _, rfl⟩ := e
              exact hN.le
            refine ⟨g', cap', by rw [show m + 1 + 1 = 33 by omega], by omega, fun _ => ⟨g', 4, rfl, (World.ownsRow.lt hv g' rfl).2, fun j hj => ?_⟩⟩
            have t := OwE.eat hv (q := j + 1) (by omega)
            rw [show (j + 1) * 4 = 4 + j * 4 by omega] at t
            have e : addE l 0 (m + 1) ⟨f, la, co, 1⟩ (j + 1) = addE l 1 31 ⟨f, la, co, 1⟩ j := by
              unfold addE
              by_cases k : j < 31
              · rw [if_pos k, if_pos (by omega), show 0 + (j + 1) = 1 + j by omega]
              · rw [if_neg k, if_neg (by omega)]
            rw [e] at t
            exact t
          have HN2 : Hid (_) := hN2
          have HL2 : Hid (_) := hL2
          clear HM HP HEN HN HL HR HLB nE lE rE e3 e5 hN2 hL2
          rcases key with k1 | ⟨k1, k2⟩
          · go_wp2_with (at_builtin; refine wpList_append_own _ rfl _ _ 22 rfl w.heap.size 33 i (.agg #[.int .i64 0, .int .i64 0, .int .i64 0, .int .i64 0]) 4 32 Tryd.underlying22 i1 i2 i3 i4 rfl (by omega) _ _ _ rfl (World.ownsRow.alloc L3.out _) ⟨w3.heap.size, 0, none⟩ 1 1 [.int .i64 (⟨f, la, co, 1⟩ : En).f, .int .i64 (⟨f, la, co, 1⟩ : En).l, .int .i64 (⟨f, la, co, 1⟩ : En).c, .int .i64 (⟨f, la, co, 1⟩ : En).m] rfl ?qe1 ?qe2 ?qe3 ?qe4 ?qe5 ?qe6 ?_)
            case qe3 => exact ⟨rfl, rfl, rfl, rfl⟩
            case qe4 => unfold maxLen; omega
            case qe5 => omega
            case qe6 => have := B3.out.size; simp; omega
            intro v4 w4 hown hgr _
            have L4 : Hid (OwE w.heap.size w4 v4 (m + 1 + 1) (addE l 0 (m + 1) ⟨f, la, co, 1⟩)) := by
              have h2 : w4.ownsRow w.heap.size 33 4 v4 (m + 1 + 1) (valE l (m + 1) ++ [.int .i64 (⟨f, la, co, 1⟩ : En).f, .int .i64 (⟨f, la, co, 1⟩ : En).l, .int .i64 (⟨f, la, co, 1⟩ : En).c, .int .i64 (⟨f, la, co, 1⟩ : En).m]) := hown
              have e := valE_add l 0 (m + 1) ⟨f, la, co, 1⟩
              have e4 : (fun t => l (0 + t)) = l := by funext t; rw [Nat.zero_add]
              rw [e4] at e
              rw [e] at h2
              exact h2
            have B4 : Hid (Below w.heap.size w w4) := (B3.out.alloc B3.out.size _).grown hgr (by have := B3.out.size; simp; omega) (fun k hk => (World.ownsRow.lt L3.out k hk).1)
            clear hown hgr x0 x1 x2 x3 y0 y1 y2 y3
            by_cases e4 : m + 1 = 32
            · obtain rfl : N = 32 := HN2.out.trans (if_pos e4)
              obtain rfl : L = _ := HL2.out.trans (if_pos e4)
              obtain ⟨g', cap', rfl, hc', hR'⟩ := HE2.out w4 v4 L4.out e4
              have RR : Hid (_) := hR'
              have z9 : ¬ cap' = 1 := by omega
              clear HN2 HL2 HE2 L4 hR'
              go_wp2_with fail
              go_ret2
              exact ⟨_, _, rfl, RR.out, B4.out⟩
            · obtain rfl : N = m + 1 + 1 := HN2.out.trans (if_neg e4)
              obtain rfl : L = _ := HL2.out.trans (if_neg e4)
              obtain ⟨a', c', rfl, hN⟩ := OwE.nw L4.out
              have N4 : Hid (_) := hN.row
              have z9 : ¬ (32 : Int) < ((m + 1 + 1 : Nat) : Int) := by omega
              clear hN L4 HN2 HL2 HE2
              go_wp2_with fail
              go_ret2
              exact ⟨a', ⟨c', rfl⟩, N4.out, B4.out⟩
          · go_wp2_with (at_builtin; refine wpList_append_own _ rfl _ _ 22 rfl w.heap.size 33 i (.agg #[.int .i64 0, .int .i64 0, .int .i64 0, .int .i64 0]) 4 32 Tryd.underlying22 i1 i2 i3 i4 rfl (by omega) _ _ _ rfl (World.ownsRow.alloc L3.out _) ⟨w3.heap.size, 0, none⟩ 1 1 [.int .i64 (⟨f, la, co, 1⟩ : En).f, .int .i64 (⟨f, la, co, 1⟩ : En).l, .int .i64 (⟨f, la, co, 1⟩ : En).c, .int .i64 (⟨f, la, co, 1⟩ : En).m] rfl ?qf1 ?qf2 ?qf3 ?qf4 ?qf5 ?qf6 ?_)
            case qf3 => exact ⟨rfl, rfl, rfl, rfl⟩
            case qf4 => unfold maxLen; omega
            case qf5 => omega
            case qf6 => have := B3.out.size; simp; omega
            intro v4 w4 hown hgr _
            have L4 : Hid (OwE w.heap.size w4 v4 (m + 1 + 1) (addE l 0 (m + 1) ⟨f, la, co, 1⟩)) := by
              have h2 : w4.ownsRow w.heap.size 33 4 v4 (m + 1 + 1) (valE l (m + 1) ++ [.int .i64 (⟨f, la, co, 1⟩ : En).f, .int .i64 (⟨f, la, co, 1⟩ : En).l, .int .i64 (⟨f, la, co, 1⟩ : En).c, .int .i64 (⟨f, la, co, 1⟩ : En).m]) := hown
              have e := valE_add l 0 (m + 1) ⟨f, la, co, 1⟩
              have e4 : (fun t => l (0 + t)) = l := by funext t; rw [Nat.zero_add]
              rw [e4] at e
              rw [e] at h2
              exact h2
            have B4 : Hid (Below w.heap.size w w4) := (B3.out.alloc B3.out.size _).grown hgr (by have := B3.out.size; simp; omega) (fun k hk => (World.ownsRow.lt L3.out k hk).1)
            clear hown hgr x0 x1 x2 x3 y0 y1 y2 y3
            by_cases e4 : m + 1 = 32
            · obtain rfl : N = 32 := HN2.out.trans (if_pos e4)
              obtain rfl : L = _ := HL2.out.trans (if_pos e4)
              obtain ⟨g', cap', rfl, hc', hR'⟩ := HE2.out w4 v4 L4.out e4
              have RR : Hid (_) := hR'
              have z9 : ¬ cap' = 1 := by omega
              clear HN2 HL2 HE2 L4 hR'
              go_wp2_with fail
              go_ret2
              exact ⟨_, _, rfl, RR.out, B4.out⟩
            · obtain rfl : N = m + 1 + 1 := HN2.out.trans (if_neg e4)
              obtain rfl : L = _ := HL2.out.trans (if_neg e4)
              obtain ⟨a', c', rfl, hN⟩ := OwE.nw L4.out
              have N4 : Hid (_) := hN.row
              have z9 : ¬ (32 : Int) < ((m + 1 + 1 : Nat) : Int) := by omega
              clear hN L4 HN2 HL2 HE2
              go_wp2_with fail
              go_ret2
              exact ⟨a', ⟨c', rfl⟩, N4.out, B4.out⟩
        · obtain ⟨k1, k2⟩ : ((l m).l == la) = true ∧ ((l m).c == co) = true := by
            unfold alB at e3
            simp only [Bool.and_eq_true, beq_iff_eq] at e3 ⊢
            exact ⟨e3.1.symm, e3.2.symm⟩
          obtain rfl : N = m + 1 := hN2.trans (if_pos e3)
          obtain rfl : L = _ := hL2.trans (if_pos e3)
          have fz := World.ownsRow.frozenAt L3.out (m * 4 + 3)
          obtain ⟨y, hy⟩ : ∃ y, (if 9999 < (l m).m + 1 then 9999 else (l m).m + 1) = y := ⟨_, rfl⟩
          have hmin : ∀ (W : World) (ts : Array TypeId) (t : TypeId), (Builtin.min_ ts t #[.int .i64 9999, .int .i64 ((l m).m + 1)]).run Tryd.prog W = .ok (.int .i64 y) W := fun W ts t => by
            rw [run_min_int2 W ts t .i64 .i64 9999 ((l m).m + 1), ← hy]
            congr 2
            split <;> split <;> omega
          have HY : Hid ((⟨(l m).f, (l m).l, (l m).c, y⟩ : En) = moreE (l m)) := by
            show (⟨(l m).f, (l m).l, (l m).c, y⟩ : En) = moreE (l m)
            rw [← hy]
            rfl
          clear hy HM HP HEN HN HL HR HLB nE lE rE e3 hN2 hL2
          go_wp2_with fail
          go_ret2
          have HS := World.ownsRow.stored L3.out (m * 4 + 3) (.int .i64 y)
          have h1 := HS.1
          rw [cellE_set_3 l m (m + 1) y (by omega), HY.out] at h1
          obtain ⟨a', c', e, hN⟩ := OwE.nw (l := setE l m (moreE (l m))) h1
          simp only [Value.slice.injEq] at e
          obtain ⟨rfl, _, rfl⟩ := e
          exact ⟨_, ⟨_, rfl⟩, hN.row, B3.out.setCell (p := ⟨g, m * 4 + 3, none⟩) (World.ownsRow.lt L3.out g rfl).1 _⟩

/-- what LogPut tells -/
theorem rput_any (a : Option Addr) (n c : Nat) (l : Nat → En) (f la co : Int) (w : World) (h : RowE w a n l) (hz : a = none → c = 0) :
    Calls Tryd.prog 8 #[.slice a n c, .int .i64 f, .int .i64 la, .int .i64 co] w fun e w' => RPutTells w (putR l n ⟨f, la, co, 1⟩) (if putR l n ⟨f, la, co, 1⟩ = 0 then putN l n ⟨f, la, co, 1⟩ else 0) (putL l n ⟨f, la, co, 1⟩) e w' := by
  by_cases e0 : chE l n = 0
  · by_cases e1 : okE ⟨f, la, co, 1⟩ = true
    · exact rput_go a n c l f la co w h hz e0 e1 _ _ _ rfl rfl rfl
    · have r : putR l n ⟨f, la, co, 1⟩ = 1 := by unfold putR; rw [e0]; simp [e1]
      rw [r]
      refine (rput_arg a n c l f la co w h e0 (by simpa using e1)).mono fun e w' hq => ?_
      exact ⟨none, 0, hq.1, rowE_none _ _ _, hq.2⟩
  · have r : putR l n ⟨f, la, co, 1⟩ = chE l n := by unfold putR; rw [if_pos e0]
    rw [r, if_neg e0]
    refine (rput_bad a n c l f la co w h _ rfl e0).mono fun e w' hq => ?_
    exact ⟨none, 0, hq.1, rowE_none _ _ _, hq.2⟩

end Go.Proofs.YtkklinjamcfppaaDoor
