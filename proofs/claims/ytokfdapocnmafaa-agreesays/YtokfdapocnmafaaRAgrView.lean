/-
  The document's own View, the walk.
-/
import Derived.Test.YtokfdapocnmafaaRAgr
namespace Go.Proofs.Ytokfdapocnmafaa
open Go.RowKit
set_option linter.unusedVariables false

theorem wok_own {k j : Nat} : wok k k j = decide (j = k) := if_pos rfl
theorem wok_else {k i j : Nat} (h : i ≠ k) : wok k i j = !(decide (j = k)) := if_neg h
/-- one word more -/
theorem ths_yes {w0 w w3 : World} {l : Nat → Int} {ok : Nat → Bool} {q : Nat} {v v3 : Value} {y : Int} (h : Ths w0 l ok q v w) (e : ok q = true) (hy : y = l q)
    (hown : w3.ownsRow w0.heap.size 21 1 v3 ((pick l ok q).length + 1) (nums (pick l ok q) ++ nums [y])) (hb : Below w0.heap.size w0 w3) : Ths w0 l ok (q + 1) v3 w3 := by
  refine ⟨?_, hb⟩
  rw [pick_yes e, List.length_append, ← hy]
  unfold nums at *
  rw [List.map_append]
  exact hown
theorem vwV_next (T : Nat → Int) (k q : Nat) : ∀ i, i < 4 → (if i = q then (.int .i32 (vw T k q)) else vwV T k q i) = vwV T k (q + 1) i := fun i hi => by
  unfold vwV
  by_cases e : i = q
  · subst e; rw [if_pos rfl, if_pos (by omega)]
  · rw [if_neg e]
    by_cases e2 : i < q
    · rw [if_pos e2, if_pos (by omega)]
    · rw [if_neg e2, if_neg (by omega)]

set_option maxHeartbeats 4000000 in
set_option maxRecDepth 100000 in
theorem rview_any (T : Nat → Int) (k : Nat) (hk : k < 4) (w : World) : Calls Try.prog 9 #[.agg (tk T), .int .i64 k] w fun e w' => e = .returned (.agg #[.int .i32 (vw T k 0), .int .i32 (vw T k 1), .int .i32 (vw T k 2), .int .i32 (vw T k 3)]) ∧ Below w.heap.size w w' := by
  have V0 : Hid (Vs w w.heap.size (w.heap.size + 1) (w.heap.size + 1 + 1) T (fun _ => .int .i32 0) (.int .i32 0) (((w.alloc (.cells (tk T) 26)).alloc (.cells #[.int .i32 0, .int .i32 0, .int .i32 0, .int .i32 0] 22)).alloc (.cells #[.int .i32 0, .int .i32 0, .int .i32 0, .int .i32 0] 22))) := vs_new w T _ _ _ _
  have z0 : (k : Int) < 4 := by omega
  obtain ⟨ii, i1, i2, i3, i4⟩ := info32
  go_enter Try.func9, Try.ntmps9
  go_wp2_with fail
  go_loopg [9] 5 (fun g u wr => ∃ i : Nat, u = .int .i64 i ∧ 4 - i < g ∧ i ≤ 4 ∧ Hid (Vs w w.heap.size (w.heap.size + 1) (w.heap.size + 1 + 1) T (vwV T k i) (.int .i32 0) wr))
  case atStart => exact ⟨0, rfl, by omega, by omega, ⟨V0.out.tb, V0.out.rs, V0.out.vi.as fun j hj => by simp [vwV], V0.out.bel, V0.out.low⟩⟩
  case round =>
    obtain ⟨i, rfl, hg, hi, HV⟩ := hrel
    clear V0
    by_cases hlt : i < 4
    · have z1 : (i : Int) < 4 := by omega
      obtain ⟨w0, rfl⟩ : ∃ w0, w0 = wr := ⟨wr, rfl⟩
      go_wp2_with fail
      go_loopg [7, 12] 5 (fun g s u wr2 => ∃ j : Nat, u = .int .i64 j ∧ 4 - j < g ∧ j ≤ 4 ∧ Hid (Ths w0 (wvl T k i) (wok k i) j s wr2))
      case atStart => exact ⟨0, rfl, by omega, by omega, ⟨World.ownsRow_nil _ _ _ _, Below.refl _ _⟩⟩
      case round =>
        obtain ⟨j, rfl, hg2, hj, HT⟩ := hrel
        by_cases hlt2 : j < 4
        · have z2 : (j : Int) < 4 := by omega
          have TBj : Hid (TB wr w.heap.size T) := Blk.step HV.out.tb HT.out.bel
          by_cases hik : i = k
          · have a1 : ((i : Int) == (k : Int)) = true := by simp; omega
            have a2 : ((i : Int) != (k : Int)) = false := by simp; omega
            by_cases hjk : j = k
            · have a3 : ((j : Int) == (k : Int)) = true := by simp; omega
              have E0 : wok k i j = true := by subst hik; rw [wok_own]; simp [hjk]
              have E1 : Hid (wok k i j = true) := E0
              have Y0 : said T k k = wvl T k i j := by unfold wvl; rw [if_pos (by omega), hik]
              have HY : Hid (said T k k = wvl T k i j) := Y0
              clear E0 Y0
              have x0 := TBj.out.said hk hk
              clear TBj
              try clear hik
              try clear hjk
              try clear hji
              generalize said T k k = y at x0 HY
              have c1 := pick_le (wvl T k i) (wok k i) j
              go_wp2_with (at_builtin; refine wpList_append_own _ rfl _ _ 37 rfl w0.heap.size 21 ii (.int .i32 0) 1 4 Try.underlying37 i1 i2 i3 i4 rfl (by omega) _ _ _ rfl (HT.out.own.alloc _) ⟨wr.heap.size, 0, none⟩ 1 _ (nums [y]) rfl ?qa0 ?qb0 ?qc0 ?qd0 ?qe0 ?qf0 ?_)
              case qa0 => rfl
              case qb0 =>
                intro t u ht
                rcases t with _ | t
                · obtain rfl : u = _ := (Option.some.inj ht).symm
                  first | exact ht | (rw [Addr.add_lit]; go_simp)
                · exact absurd ht (by simp [nums])
              case qc0 => exact fun u hu => nums_one hu
              case qd0 => unfold maxLen; omega
              case qe0 => omega
              case qf0 => have := HT.out.bel.size; simp; omega
              intro v3 w3 hown hgr _
              have L3 : Hid (Ths w0 (wvl T k i) (wok k i) (j + 1) v3 w3) := ths_yes HT.out E1.out HY.out hown ((HT.out.bel.alloc HT.out.bel.size _).grown hgr (by have := HT.out.bel.size; simp; omega) (fun t ht => (HT.out.own.lt t ht).1))
              clear hown hgr
              go_wp2_with fail
              go_roundg (4 - (j + 1) + 1)
              case measure => omega
              case rel => exact ⟨j + 1, by go_num, by omega, by omega, L3⟩
            · have a3 : ((j : Int) == (k : Int)) = false := by simp; omega
              have E1 : wok k i j = false := by subst hik; rw [wok_own]; simp [hjk]
              have L3 : Hid (Ths w0 (wvl T k i) (wok k i) (j + 1) u7 wr) := ths_no HT.out E1
              clear E1 TBj hik hjk
              go_wp2_with fail
              go_roundg (4 - (j + 1) + 1)
              case measure => omega
              case rel => exact ⟨j + 1, by go_num, by omega, by omega, L3⟩
          · have a1 : ((i : Int) == (k : Int)) = false := by simp; omega
            have a2 : ((i : Int) != (k : Int)) = true := by simp; omega
            by_cases hji : j = i
            · have a3 : ((j : Int) == (i : Int)) = true := by simp; omega
              have E0 : wok k i j = true := by rw [wok_else hik]; simp; omega
              have E1 : Hid (wok k i j = true) := E0
              have Y0 : said T i k = wvl T k i j := by unfold wvl; rw [if_pos hji]
              have HY : Hid (said T i k = wvl T k i j) := Y0
              clear E0 Y0
              have x0 := TBj.out.said hlt hk
              clear TBj
              try clear hik
              try clear hjk
              try clear hji
              generalize said T i k = y at x0 HY
              have c1 := pick_le (wvl T k i) (wok k i) j
              go_wp2_with (at_builtin; refine wpList_append_own _ rfl _ _ 37 rfl w0.heap.size 21 ii (.int .i32 0) 1 4 Try.underlying37 i1 i2 i3 i4 rfl (by omega) _ _ _ rfl (HT.out.own.alloc _) ⟨wr.heap.size, 0, none⟩ 1 _ (nums [y]) rfl ?qa1 ?qb1 ?qc1 ?qd1 ?qe1 ?qf1 ?_)
              case qa1 => rfl
              case qb1 =>
                intro t u ht
                rcases t with _ | t
                · obtain rfl : u = _ := (Option.some.inj ht).symm
                  first | exact ht | (rw [Addr.add_lit]; go_simp)
                · exact absurd ht (by simp [nums])
              case qc1 => exact fun u hu => nums_one hu
              case qd1 => unfold maxLen; omega
              case qe1 => omega
              case qf1 => have := HT.out.bel.size; simp; omega
              intro v3 w3 hown hgr _
              have L3 : Hid (Ths w0 (wvl T k i) (wok k i) (j + 1) v3 w3) := ths_yes HT.out E1.out HY.out hown ((HT.out.bel.alloc HT.out.bel.size _).grown hgr (by have := HT.out.bel.size; simp; omega) (fun t ht => (HT.out.own.lt t ht).1))
              clear hown hgr
              go_wp2_with fail
              go_roundg (4 - (j + 1) + 1)
              case measure => omega
              case rel => exact ⟨j + 1, by go_num, by omega, by omega, L3⟩
            · have a3 : ((j : Int) == (i : Int)) = false := by simp; omega
              by_cases hjk : j = k
              · have a4 : ((j : Int) != (k : Int)) = false := by simp; omega
                have E1 : wok k i j = false := by rw [wok_else hik]; simp [hjk]
                have L3 : Hid (Ths w0 (wvl T k i) (wok k i) (j + 1) u7 wr) := ths_no HT.out E1
                clear E1 TBj hik hjk
                go_wp2_with fail
                go_roundg (4 - (j + 1) + 1)
                case measure => omega
                case rel => exact ⟨j + 1, by go_num, by omega, by omega, L3⟩
              · have a4 : ((j : Int) != (k : Int)) = true := by simp; omega
                have E0 : wok k i j = true := by rw [wok_else hik]; simp [hjk]
                have E1 : Hid (wok k i j = true) := E0
                have Y0 : told T i j k = wvl T k i j := by unfold wvl; rw [if_neg hji]
                have HY : Hid (told T i j k = wvl T k i j) := Y0
                clear E0 Y0
                have x0 := TBj.out.told hlt hlt2 hk
                clear TBj
                try clear hik
                try clear hjk
                try clear hji
                generalize told T i j k = y at x0 HY
                have c1 := pick_le (wvl T k i) (wok k i) j
                go_wp2_with (at_builtin; refine wpList_append_own _ rfl _ _ 37 rfl w0.heap.size 21 ii (.int .i32 0) 1 4 Try.underlying37 i1 i2 i3 i4 rfl (by omega) _ _ _ rfl (HT.out.own.alloc _) ⟨wr.heap.size, 0, none⟩ 1 _ (nums [y]) rfl ?qa2 ?qb2 ?qc2 ?qd2 ?qe2 ?qf2 ?_)
                case qa2 => rfl
                case qb2 =>
                  intro t u ht
                  rcases t with _ | t
                  · obtain rfl : u = _ := (Option.some.inj ht).symm
                    first | exact ht | (rw [Addr.add_lit]; go_simp)
                  · exact absurd ht (by simp [nums])
                case qc2 => exact fun u hu => nums_one hu
                case qd2 => unfold maxLen; omega
                case qe2 => omega
                case qf2 => have := HT.out.bel.size; simp; omega
                intro v3 w3 hown hgr _
                have L3 : Hid (Ths w0 (wvl T k i) (wok k i) (j + 1) v3 w3) := ths_yes HT.out E1.out HY.out hown ((HT.out.bel.alloc HT.out.bel.size _).grown hgr (by have := HT.out.bel.size; simp; omega) (fun t ht => (HT.out.own.lt t ht).1))
                clear hown hgr
                go_wp2_with fail
                go_roundg (4 - (j + 1) + 1)
                case measure => omega
                case rel => exact ⟨j + 1, by go_num, by omega, by omega, L3⟩
        · have z2 : ¬ (j : Int) < 4 := by omega
          obtain rfl : j = 4 := by omega
          have HV2 : Hid (Vs w w.heap.size (w.heap.size + 1) (w.heap.size + 1 + 1) T (vwV T k i) (.int .i32 0) wr) := HV.out.step HT.out.bel
          clear HV
          obtain ⟨l64, E, hM⟩ := words_maj T hk hlt
          have HM : Hid (Maj (kept (wvl T k i) (wok k i) 4) (pick (wvl T k i) (wok k i) 4).length (vw T k i) E) := hM
          have hpos : 0 < (pick (wvl T k i) (wok k i) 4).length := by
            rcases hM with ⟨_, h⟩ | ⟨_, _, h⟩
            · have := cnt_le (eqI (vw T k i)) (kept (wvl T k i) (wok k i) 4) (pick (wvl T k i) (wok k i) 4).length
              omega
            · by_cases hik : i = k
              · subst hik
                have e : pick (wvl T i i) (wok i i) 4 = [said T i i] := by
                  obtain rfl | rfl | rfl | rfl := four hlt <;> rfl
                rw [e]; simp
              · obtain ⟨a, b, c, e, _⟩ := words3 T hk hlt hik
                rw [e]; simp
          clear hM
          obtain ⟨g, cap, rfl, g1, g2⟩ := HT.out.own.form hpos
          have HR : Hid (R32 wr (some ⟨g, 0, none⟩) (pick (wvl T k i) (wok k i) 4).length (kept (wvl T k i) (wok k i) 4)) := fun _ => ⟨g, 0, rfl, g2, fun t ht => by
            have := HT.out.own.cellAt t (by omega)
            rw [Nat.zero_add, this]
            unfold nums kept
            rw [List.getElem?_map, List.getElem?_eq_getElem ht, List.getD_eq_getElem?_getD, List.getElem?_eq_getElem ht]
            rfl⟩
          clear HT
          have y0 := HV2.out.vi.cell i hlt
          have y1 := HV2.out.vi.froz i hlt
          generalize vwV T k i i = yv at y0
          have Hn : Hid (Vs w w.heap.size (w.heap.size + 1) (w.heap.size + 1 + 1) T (vwV T k (i + 1)) (.int .i32 0) (wr.setCell ⟨w.heap.size + 1 + 1, i, none⟩ (.int .i32 (vw T k i)))) := HV2.out.set hlt (vwV_next T k i)
          generalize (pick (wvl T k i) (wok k i) 4).length = K at *
          generalize vw T k i = m at *
          go_wp2_with fail
          refine (rmajority_any (some ⟨g, 0, none⟩) K cap (kept (wvl T k i) (wok k i) 4) m E _ l64 HR.out HM.out).mono ?_
          rintro e w4 ⟨rfl, rfl⟩
          go_wp2_with fail
          go_roundg (4 - (i + 1) + 1)
          case measure => omega
          case rel => exact ⟨i + 1, by go_num, by omega, by omega, Hn⟩
    · have z1 : ¬ (i : Int) < 4 := by omega
      obtain rfl : i = 4 := by omega
      have y0 := HV.out.vi.cell 0 (by omega)
      have y1 := HV.out.vi.cell 1 (by omega)
      have y2 := HV.out.vi.cell 2 (by omega)
      have y3 := HV.out.vi.cell 3 (by omega)
      have g0 := HV.out.rs.cell 0 (by omega)
      have g1 := HV.out.rs.cell 1 (by omega)
      have g2 := HV.out.rs.cell 2 (by omega)
      have g3 := HV.out.rs.cell 3 (by omega)
      have f0 := HV.out.rs.froz 0 (by omega)
      have f1 := HV.out.rs.froz 1 (by omega)
      have f2 := HV.out.rs.froz 2 (by omega)
      have f3 := HV.out.rs.froz 3 (by omega)
      replace y0 : wr.cell? ⟨w.heap.size + 1 + 1, 0, none⟩ = some (.int .i32 (vw T k 0)) := y0
      replace y1 : wr.cell? ⟨w.heap.size + 1 + 1, 1, none⟩ = some (.int .i32 (vw T k 1)) := y1
      replace y2 : wr.cell? ⟨w.heap.size + 1 + 1, 2, none⟩ = some (.int .i32 (vw T k 2)) := y2
      replace y3 : wr.cell? ⟨w.heap.size + 1 + 1, 3, none⟩ = some (.int .i32 (vw T k 3)) := y3
      go_wp2_with fail
      obtain ⟨w3, hw3, e0, e1, e2, e3, hB⟩ := HV.out.rs.put4 (.int .i32 (vw T k 0)) (.int .i32 (vw T k 1)) (.int .i32 (vw T k 2)) (.int .i32 (vw T k 3))
      rw [hw3]
      refine bodyPost_ret (by simp [results, Try.results9, go_sem, e0, e1, e2, e3]; try rfl) rfl ?_
      exact ⟨rfl, hB _ _ HV.out.bel HV.out.low.1⟩

end Go.Proofs.Ytokfdapocnmafaa
