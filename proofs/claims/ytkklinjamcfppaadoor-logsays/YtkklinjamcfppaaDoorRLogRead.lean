/-
  Contract of the document's LogRead: what Read tells.
-/
import Derived.Test.YtkklinjamcfppaaDoorRSplit
import Derived.Test.YtkklinjamcfppaaDoorRLogErr
import Derived.Test.YtkklinjamcfppaaDoorLogRead
namespace Go.Proofs.YtkklinjamcfppaaDoor
open Go.RowKit
set_option linter.unusedVariables false

/-- four texts -/
def fourT (a b c d : List UInt8) (j : Nat) : List UInt8 := if j = 0 then a else if j = 1 then b else if j = 2 then c else d
/-- what is known of the first q of four numbers -/
def Upn (t : Nat → List UInt8) (v : Nat → Int) (q : Nat) : Prop := ∀ j, j < q → canB (t j) = true ∧ v j = (vlN 0 (t j) : Int)
theorem upn_next {t : Nat → List UInt8} {v : Nat → Int} {q : Nat} {m : Int} (h : Upn t v q) (hc : canB (t q) = true) (hm : m = (vlN 0 (t q) : Int)) : Upn t (upI4 v q m) (q + 1) := fun j hj => by
  unfold upI4
  by_cases e : j = q
  · rw [if_pos e, e]
    exact ⟨hc, hm⟩
  · rw [if_neg e]
    exact h j (by omega)
theorem ln_three {s p0 p1 p2 : List UInt8} (h : cutN 58 2 s = [p0, p1, p2]) : lnP s = if canB p0 = true ∧ canB p1 = true ∧ canB (cutX 120 p2).1 = true ∧ canB (cutX 120 p2).2 = true then some ⟨(vlN 0 p0 : Int), (vlN 0 p1 : Int), (vlN 0 (cutX 120 p2).1 : Int), (vlN 0 (cutX 120 p2).2 : Int)⟩ else none := by
  unfold lnP
  rw [h]
theorem ln_other {s : List UInt8} (h : (cutN 58 2 s).length ≠ 3) : lnP s = none := by
  unfold lnP
  split
  · rename_i hc
    rw [hc] at h
    exact absurd rfl h
  · rfl
theorem ln_all {s p0 p1 p2 : List UInt8} {v : Nat → Int} (h : cutN 58 2 s = [p0, p1, p2]) (hu : Upn (fourT p0 p1 (cutX 120 p2).1 (cutX 120 p2).2) v 4) : lnP s = some ⟨v 0, v 1, v 2, v 3⟩ := by
  have h0 := hu 0 (by decide)
  have h1 := hu 1 (by decide)
  have h2 := hu 2 (by decide)
  have h3 := hu 3 (by decide)
  rw [ln_three h, if_pos ⟨h0.1, h1.1, h2.1, h3.1⟩, h0.2, h1.2, h2.2, h3.2]
  rfl
theorem ln_bad {s p0 p1 p2 : List UInt8} {q : Nat} (h : cutN 58 2 s = [p0, p1, p2]) (hq : q < 4) (hb : canB (fourT p0 p1 (cutX 120 p2).1 (cutX 120 p2).2 q) = false) : lnP s = none := by
  rw [ln_three h, if_neg]
  rintro ⟨h0, h1, h2, h3⟩
  rcases (show q = 0 ∨ q = 1 ∨ q = 2 ∨ q = 3 by omega) with rfl | rfl | rfl | rfl
  · exact Bool.noConfusion (h0.symm.trans hb)
  · exact Bool.noConfusion (h1.symm.trans hb)
  · exact Bool.noConfusion (h2.symm.trans hb)
  · exact Bool.noConfusion (h3.symm.trans hb)
theorem cutX_cases (b : UInt8) (r : List UInt8) : ∃ f, (f = true ∧ cutB b r = some ((cutX b r).1, (cutX b r).2)) ∨ (f = false ∧ cutB b r = none ∧ (cutX b r).1 = r ∧ (cutX b r).2 = []) := by
  unfold cutX
  cases h : cutB b r with
  | none => exact ⟨false, Or.inr ⟨rfl, rfl, rfl, rfl⟩⟩
  | some p => exact ⟨true, Or.inl ⟨rfl, rfl⟩⟩
theorem cutX_len (b : UInt8) (r : List UInt8) : (cutX b r).1.length ≤ r.length ∧ (cutX b r).2.length ≤ r.length := by
  unfold cutX
  cases h : cutB b r with
  | none => exact ⟨Nat.le_refl _, Nat.zero_le _⟩
  | some p => exact cutB_len (x := p.1) (y := p.2) h
/-- the lines: those that end, and what is behind them -/
theorem lnS_parts (s : List UInt8) : ∃ (pre : List (List UInt8)) (last : List UInt8), lnS s = pre ++ [last] ∧ pre.length = s.count 10 ∧ last.length ≤ s.length ∧ (∀ x ∈ pre, x.length ≤ s.length) ∧ pre.length ≤ s.length ∧ rrP s = (if last = [] then lsP pre else none) := by
  have hn : lnS s ≠ [] := cutN_ne 10 (s.count 10) s
  have hl : ∀ x ∈ lnS s, x.length ≤ s.length := (cutN_len 10 (s.count 10) s).1
  have ha := cutN_all _ s (Nat.le_refl _)
  have e : lnS s = (lnS s).dropLast ++ [(lnS s).getLast hn] := (List.dropLast_concat_getLast hn).symm
  refine ⟨(lnS s).dropLast, (lnS s).getLast hn, e, by rw [List.length_dropLast, ha]; omega, hl _ (List.getLast_mem hn), fun x hx => hl x (List.dropLast_subset _ hx), ?_, ?_⟩
  · rw [List.length_dropLast, ha]
    have := List.count_le_length (a := (10 : UInt8)) (l := s)
    omega
  · unfold rrP
    show (if (lnS s).getLast? = some [] then lsP (lnS s).dropLast else none) = _
    rw [List.getLast?_eq_some_getLast hn]
    simp only [Option.some.injEq]

theorem fourT_get (a b c d : List UInt8) {j : Nat} (h : j < 4) : ([.string (tx a), .string (tx b), .string (tx c), .string (tx d)] : List Value)[j]? = some (.string (tx (fourT a b c d j))) := by
  rcases (show j = 0 ∨ j = 1 ∨ j = 2 ∨ j = 3 by omega) with rfl | rfl | rfl | rfl <;> rfl
theorem fourT_len {a b c d : List UInt8} (ha : a.length ≤ 4095) (hb : b.length ≤ 4095) (hc : c.length ≤ 4095) (hd : d.length ≤ 4095) (j : Nat) : (fourT a b c d j).length ≤ 4095 := by
  unfold fourT
  split
  · exact ha
  · split
    · exact hb
    · split
      · exact hc
      · exact hd
theorem rowE_zero (w : World) (a : Option Addr) (l : Nat → En) : RowE w a 0 l := fun h => absurd h (by omega)
theorem len3 {α : Type} {l : List α} (h : l.length = 3) : ∃ a b c, l = [a, b, c] := by
  match l, h with
  | [a, b, c], _ => exact ⟨a, b, c, rfl⟩

set_option maxHeartbeats 8000000 in
set_option maxRecDepth 100000 in
theorem rread_lines (s : List UInt8) (w : World) (hl : s.length ≤ 4095) (hv : Vb w) :
    Calls Tryd.prog 12 #[.string (tx s)] w fun e w' => ∃ a c, e = .returned (.tuple #[.slice a (rdL s).length c, .int .i64 (rdN s)]) ∧ RowE w' a (rdL s).length (atE (rdL s)) ∧ Below w.heap.size w w' := by
  have z1 : ¬ (4095 : Int) < ((tx s).size : Int) := by
    have : (tx s).size = s.length := rfl
    rw [this]
    omega
  have CS := split_any s w hl hv
  obtain ⟨pre, last, hp, hpl, hlast, hpre, hpl2, hrr⟩ := lnS_parts s
  rw [hp, ← hpl] at CS
  have HV : Hid (Vb w) := hv
  have HL : Hid (s.length ≤ 4095) := hl
  obtain ⟨K, hK⟩ : ∃ K, pre.length = K := ⟨_, rfl⟩
  rw [hK] at CS hpl2
  obtain ⟨S, hS⟩ : ∃ S, tx s = S := ⟨_, rfl⟩
  rw [hS] at CS z1 ⊢
  have zK : K ≤ 4095 := by omega
  have HN : Hid (rrP s = none → rdN s = 10 ∧ rdL s = []) := fun h => by
    rw [rrP_rdP _ s (Nat.le_refl _)] at h
    unfold rdN rdL
    rw [if_neg (by omega), if_neg (by omega), h]
    exact ⟨rfl, rfl⟩
  have HY : Hid (∀ xs, rrP s = some xs → rdN s = chE (atE xs) xs.length ∧ rdL s = if chE (atE xs) xs.length = 0 then xs else []) := fun xs h => by
    rw [rrP_rdP _ s (Nat.le_refl _)] at h
    unfold rdN rdL
    rw [if_neg (by omega), if_neg (by omega), h]
    exact ⟨rfl, rfl⟩
  have HK : Hid (pre.length = K) := hK
  have HPR : Hid (∀ x ∈ pre, x.length ≤ 4095) := fun x hx => by have := hpre x hx; omega
  have HLA : Hid (last.length ≤ 4095) := by
    show last.length ≤ 4095
    omega
  have HRR : Hid (rrP s = (if last = [] then lsP pre else none)) := hrr
  generalize rdN s = E at HN HY ⊢
  generalize rdL s = M at HN HY ⊢
  clear hv hl hp hpl hlast hpre hpl2 hrr hK hS
  go_enter Tryd.func12, Tryd.ntmps12
  go_wp2_with fail
  refine CS.mono ?_
  rintro e w1 ⟨rfl, hC, hb⟩
  have C1 : Hid (Cells w1 w.heap.size (strV (pre ++ [last]))) := hC
  have B1 : Hid (Below w.heap.size w w1) := hb
  have d0 := C1.out.cell K _ (strV_get _ (by rw [List.getElem?_append_right (by rw [HK.out]; exact Nat.le_refl _), HK.out, Nat.sub_self]; rfl))
  have dl := C1.out.lt
  clear hC hb CS
  by_cases hla : last = []
  · have q1 : (tx last).toList.isEmpty = true := by rw [ByteArray.toList_eq, tx_data, hla]; rfl
    have HR2 : Hid (rrP s = lsP pre) := HRR.out.trans (if_pos hla)
    have E1 : Hid (Es w1 (.slice none 0 0) [] w1) := ⟨World.ownsRow_nil _ _ _ _, Below.refl _ _⟩
    have G0 : Hid (rrP s = (lsP (pre.drop 0)).map ([] ++ ·)) := by
      show rrP s = (lsP (pre.drop 0)).map ([] ++ ·)
      rw [HR2.out, List.drop_zero]
      cases lsP pre <;> rfl
    clear hla HRR
    go_wp2_with fail
    clear d0 q1 z1
    go_loopg [5, 35] (K + 1) (fun g s5 s35 wr => ∃ (q : Nat) (xs : List En), s35 = .int .i64 q ∧ Hid (K - q < g) ∧ Hid (q ≤ K) ∧ Hid (xs.length = q) ∧ Hid (rrP s = (lsP (pre.drop q)).map (xs ++ ·)) ∧ Hid (Es w1 s5 xs wr))
    case atStart => exact ⟨0, [], rfl, (by omega : K - 0 < K + 1), Nat.zero_le _, rfl, G0.out, E1.out⟩
    case round =>
      obtain ⟨q, xs, rfl, Hg, Hq, Hx, HG, HS⟩ := hrel
      clear G0 E1 dl
      have HC : Hid (_) := C1.out.step HS.out.bel
      have HW : Hid (Below w.heap.size w wr) := below_then B1.out HS.out.bel B1.out.size
      by_cases hlt : q < K
      · have z4 : (q : Int) < (K : Int) := by omega
        have z5 : (0 : Int) ≤ (q : Int) := by omega
        have hq2 : q < pre.length := by rw [HK.out]; exact hlt
        obtain ⟨x, hx⟩ : ∃ x, pre[q] = x := ⟨_, rfl⟩
        have hx2 : (pre ++ [last])[q]? = some x := by rw [List.getElem?_append_left hq2, List.getElem?_eq_getElem hq2, hx]
        have d0 := HC.out.cell q _ (strV_get _ hx2)
        have dl := HC.out.lt
        have hxl : x.length ≤ 4095 := HPR.out x (by rw [← hx]; exact List.getElem_mem _)
        have HG2 : Hid (rrP s = (match lnP x with | none => none | some y => ((lsP (pre.drop (q + 1))).map (y :: ·)).map (xs ++ ·))) := by
          have := HG.out
          rw [List.drop_eq_getElem_cons hq2, hx] at this
          show rrP s = _
          rw [this]
          show (match lnP x with | none => none | some y => (lsP (pre.drop (q + 1))).map (y :: ·)).map (xs ++ ·) = _
          cases lnP x <;> rfl
        have HV2 : Hid (Vb wr) := HV.out.step HW.out
        have CN : Hid (∀ W, Below wr.heap.size wr W → Calls Tryd.prog 30 #[.string (tx x), .string (tx [58]), .int .i64 3] W fun e w' => ∃ c, e = .returned (.slice (some ⟨W.heap.size, 0, none⟩) (cutN 58 2 x).length c) ∧ (cutN 58 2 x).length ≤ c ∧ (∀ j y, (cutN 58 2 x)[j]? = some y → w'.cell? ⟨W.heap.size, j, none⟩ = some (.string (tx y))) ∧ Below W.heap.size W w') := fun W hW => splitN_any x W hxl (HV2.out.step hW)
        have HXL : Hid (x.length ≤ 4095) := hxl
        clear hx hx2 HG hxl
        go_wp2_with fail
        refine (CN.out _ (Below.refl _ _)).mono ?_
        rintro e w2 ⟨c, rfl, hc, hcell, hb2⟩
        have B2 : Hid (Below wr.heap.size wr w2) := hb2
        have HCL : Hid (_) := hcell
        clear hb2 hcell CN d0
        by_cases h3 : (cutN 58 2 x).length = 3
        · obtain ⟨p0, p1, p2, hp⟩ := len3 h3
          have c0 := HCL.out 0 p0 (by rw [hp]; rfl)
          have c1 := HCL.out 1 p1 (by rw [hp]; rfl)
          have c2 := HCL.out 2 p2 (by rw [hp]; rfl)
          have HP : Hid (cutN 58 2 x = [p0, p1, p2]) := hp
          have hpl := (cutN_len 58 2 x).1
          rw [hp] at hpl
          have HPL : Hid (p0.length ≤ 4095 ∧ p1.length ≤ 4095 ∧ p2.length ≤ 4095) := by
            have := HXL.out
            exact ⟨by have := hpl p0 (by simp); omega, by have := hpl p1 (by simp); omega, by have := hpl p2 (by simp); omega⟩
          have hb3 : wr.heap.size < w2.heap.size := World.block_lt_of_cell? _ _ c0
          rw [h3] at hc ⊢
          obtain ⟨f, hf⟩ := cutX_cases 120 p2
          have CC : Hid (∀ W, Below wr.heap.size wr W → Calls Tryd.prog 31 #[.string (tx p2), .string (tx [120])] W fun e w' => e = .returned (.tuple #[.string (tx (cutX 120 p2).1), .string (tx (cutX 120 p2).2), .bool f]) ∧ Below W.heap.size W w') := fun W hW => cut_any 120 p2 _ _ f W HPL.out.2.2 (HV2.out.step hW) hf
          clear hp hpl h3 HCL hf
          go_wp2_with fail
          refine (CC.out _ B2.out).mono ?_
          rintro e w3 ⟨rfl, hb⟩
          have B3 : Hid (Below wr.heap.size wr w3) := below_then B2.out hb B2.out.size
          have c0' := (hb.cell (p := ⟨wr.heap.size, 0, none⟩) hb3).trans c0
          have c1' := (hb.cell (p := ⟨wr.heap.size, 1, none⟩) hb3).trans c1
          have hb4 : wr.heap.size < w3.heap.size := Nat.lt_of_lt_of_le hb3 hb.size
          clear hb CC c0 c1 c2
          go_wp2_with fail
          obtain ⟨w4, hw4, X4', L4'⟩ : ∃ w4, w3.alloc (.cells #[.int .i64 0, .int .i64 0, .int .i64 0, .int .i64 0] 63) = w4 ∧ Cells w4 w3.heap.size (four4 fun _ => 0) ∧ Below w3.heap.size w3 w4 := ⟨_, rfl, cells_new _ _ _, (Below.refl _ w3).alloc (Nat.le_refl _) _⟩
          rw [hw4]
          have X4 : Hid (_) := X4'
          have B4 : Hid (Below wr.heap.size wr w4) := below_then B3.out L4' B3.out.size
          have e0 := (L4'.cell (p := ⟨wr.heap.size, 0, none⟩) hb4).trans c0'
          have e1 := (L4'.cell (p := ⟨wr.heap.size, 1, none⟩) hb4).trans c1'
          obtain ⟨F, hF⟩ : ∃ F, w3.heap.size = F := ⟨_, rfl⟩
          have HF : Hid (wr.heap.size ≤ F) := by
            show wr.heap.size ≤ F
            rw [← hF]
            exact B3.out.size
          rw [hF] at X4 ⊢
          obtain ⟨p3, hp3⟩ : ∃ p3, (cutX 120 p2).1 = p3 := ⟨_, rfl⟩
          obtain ⟨p4, hp4⟩ : ∃ p4, (cutX 120 p2).2 = p4 := ⟨_, rfl⟩
          have HT : Hid (∀ j, (fourT p0 p1 p3 p4 j).length ≤ 4095) := by
            have h1 := cutX_len 120 p2
            have h2 := HPL.out
            rw [hp3, hp4] at h1
            exact fourT_len h2.1 h2.2.1 (by omega) (by omega)
          have HBD : Hid (∀ i, i < 4 → canB (fourT p0 p1 p3 p4 i) = false → E = 10 ∧ M = []) := fun i hi hb => by
            rw [← hp3, ← hp4] at hb
            refine HN.out ?_
            have := HG2.out
            rw [ln_bad HP.out hi hb] at this
            exact this
          have HGD : Hid (∀ v, Upn (fourT p0 p1 p3 p4) v 4 → rrP s = (lsP (pre.drop (q + 1))).map ((xs ++ [⟨v 0, v 1, v 2, v 3⟩]) ++ ·)) := fun v hu => by
            rw [← hp3, ← hp4] at hu
            have := HG2.out
            rw [ln_all HP.out hu] at this
            rw [this]
            show ((lsP (pre.drop (q + 1))).map ((⟨v 0, v 1, v 2, v 3⟩ : En) :: ·)).map (xs ++ ·) = _
            cases lsP (pre.drop (q + 1)) with
            | none => rfl
            | some ys => simp
          rw [hp3, hp4]
          clear hw4 X4' L4' c0' c1' hb4 hF hp3 hp4 HG2 HP
          go_region
          obtain ⟨w5, hw5, X5', L5'⟩ : ∃ w5, (w4.alloc (.cells #[.string (tx p0), .string (tx p1), .string (tx p3), .string (tx p4)] 9)).drew = w5 ∧ Cells w5 w4.heap.size [.string (tx p0), .string (tx p1), .string (tx p3), .string (tx p4)] ∧ Below w4.heap.size w4 w5 := ⟨_, rfl, (cells_new _ _ _).drew, ((Below.refl _ w4).alloc (Nat.le_refl _) _).drew⟩
          rw [hw5]
          obtain ⟨G, hG⟩ : ∃ G, w4.heap.size = G := ⟨_, rfl⟩
          have X6 : Hid (Cells w5 F (four4 fun _ => 0)) := X4.out.step L5'
          have B5 : Hid (Below wr.heap.size wr w5) := below_then B4.out L5' B4.out.size
          rw [hG] at X5' ⊢
          have X5 : Hid (_) := X5'
          have HGF : Hid (G ≠ F) := by
            have := X4.out.lt
            show G ≠ F
            omega
          clear hw5 X5' L5' hG e0 e1 X4 B4 B3 B2
          obtain ⟨w0, rfl⟩ : ∃ w0, w0 = wr := ⟨wr, rfl⟩
          go_wp2_with fail
          go_loopg [62] 5 (fun g si wr => ∃ (i : Nat) (v : Nat → Int), si = .int .i64 i ∧ Hid (4 - i < g) ∧ Hid (i ≤ 4) ∧ Hid (Upn (fourT p0 p1 p3 p4) v i) ∧ Hid (Below w0.heap.size w0 wr) ∧ Hid (Cells wr F (four4 v)) ∧ Hid (Cells wr G [.string (tx p0), .string (tx p1), .string (tx p3), .string (tx p4)]))
          case atStart => exact ⟨0, fun _ => 0, rfl, (by decide : 4 - 0 < 5), (by decide : 0 ≤ 4), (fun j hj => absurd hj (by omega)), B5.out, X6.out, X5.out⟩
          case round =>
            obtain ⟨i, v, rfl, Hgi, Hi, HU, HB, HF4, HT4⟩ := hrel
            clear X5 X6 B5
            have HBW : Hid (Below w.heap.size w wr) := below_then HW.out HB.out HW.out.size
            by_cases hi : i < 4
            · have z6 : (i : Int) < 4 := by omega
              have z7 : (0 : Int) ≤ (i : Int) := by omega
              have d0 := HT4.out.cell i _ (fourT_get p0 p1 p3 p4 hi)
              have d1 := HT4.out.lt
              have CD : Hid (∀ W, Calls Tryd.prog 32 #[.string (tx (fourT p0 p1 p3 p4 i))] W fun e w' => ∃ m, e = .returned (.tuple #[.int .i64 m, .bool (canB (fourT p0 p1 p3 p4 i))]) ∧ (canB (fourT p0 p1 p3 p4 i) = true → m = (vlN 0 (fourT p0 p1 p3 p4 i) : Int)) ∧ Below W.heap.size W w') := fun W => digits_any _ W (HT.out i)
              obtain ⟨cb, hcb⟩ : ∃ cb, canB (fourT p0 p1 p3 p4 i) = cb := ⟨_, rfl⟩
              rw [hcb] at CD
              have HCB : Hid (canB (fourT p0 p1 p3 p4 i) = cb) := hcb
              clear hcb
              go_wp2_with fail
              refine (CD.out _).mono ?_
              rintro e w6 ⟨m, rfl, hm, hb⟩
              have B6 : Hid (Below w0.heap.size w0 w6) := below_then HB.out hb HB.out.size
              have F6 : Hid (_) := HF4.out.step hb
              have T6 : Hid (_) := HT4.out.step hb
              have HM : Hid (_) := hm
              clear hb hm CD d0 d1 HB HF4 HT4 HBW
              have d0 := F6.out.cell i _ (four4_get v i hi)
              have d1 := F6.out.froz i _ (four4_get v i hi)
              have d2 := F6.out.lt
              have B7 : Hid (Below w0.heap.size w0 (w6.setCell ⟨F, i, none⟩ (.int .i64 m))) := B6.out.setCell (p := ⟨F, i, none⟩) HF.out _
              rcases twoB cb with k | k
              · have HB8 : Hid (Below w.heap.size w (w6.setCell ⟨F, i, none⟩ (.int .i64 m))) := below_then HW.out B7.out HW.out.size
                obtain ⟨h1, h2⟩ := HBD.out i hi (HCB.out.trans k)
                subst h1 h2
                clear HN HY HBD HGD
                subst k
                go_wp2_with fail
                go_ret2
                exact ⟨none, 0, rfl, rowE_zero _ _ _, HB8.out⟩
              · have HU2 : Hid (Upn (fourT p0 p1 p3 p4) (upI4 v i m) (i + 1)) := upn_next HU.out (HCB.out.trans k) (HM.out k)
                have F7 : Hid (Cells (w6.setCell ⟨F, i, none⟩ (.int .i64 m)) F (four4 (upI4 v i m))) := by
                  have := F6.out.set (j := i) hi (.int .i64 m)
                  rw [four4_set v i m hi] at this
                  exact this
                have T7 : Hid (G ≠ F → Cells (w6.setCell ⟨F, i, none⟩ (.int .i64 m)) G [.string (tx p0), .string (tx p1), .string (tx p3), .string (tx p4)]) := fun h => T6.out.other (fun k => h k.symm) _
                subst k
                clear HM HCB
                go_wp2_with fail
                go_roundg (4 - (i + 1) + 1)
                case measure => exact (by have := Hgi.out; omega)
                case rel => exact ⟨i + 1, upI4 v i m, by go_num, (by omega : 4 - (i + 1) < 4 - (i + 1) + 1), hi, HU2.out, B7.out, F7.out, T7.out HGF.out⟩
            · obtain rfl : i = 4 := by have := Hi.out; omega
              have HR4 : Hid (_) := HGD.out v HU.out
              have HS2 : Hid (Es w1 _ xs wr) := HS.out.step HB.out
              have d0 := HF4.out.cell 0 _ rfl
              have d1 := HF4.out.cell 1 _ rfl
              have d2 := HF4.out.cell 2 _ rfl
              have d3 := HF4.out.cell 3 _ rfl
              have dl := HF4.out.lt
              have z6 : ¬ ((4 : Nat) : Int) < 4 := by omega
              have zn : xs.length ≤ 4095 := by have := Hx.out; omega
              obtain ⟨ii, i1, i2, i3, i4⟩ := infoE
              clear hi HBD HGD HU HN HY
              go_wp2_with (at_builtin; refine wpList_append_own _ rfl _ _ 22 rfl w1.heap.size 33 ii (.agg #[.int .i64 0, .int .i64 0, .int .i64 0, .int .i64 0]) 4 32 Tryd.underlying22 i1 i2 i3 i4 rfl (by omega) _ _ _ rfl (HS2.out.own.alloc _) ⟨wr.heap.size, 0, none⟩ 1 _ (four4 v) rfl ?qc1 ?qc2 ?qc3 ?qc4 ?qc5 ?qc6 ?_)
              case qc1 => rfl
              case qc2 => exact fun j u hu => hu
              case qc3 => exact fun u hu => by simp [four4] at hu; rcases hu with rfl | rfl | rfl | rfl <;> rfl
              case qc4 => unfold maxLen; omega
              case qc5 => omega
              case qc6 => have := HS2.out.bel.size; omega
              intro v3 w7 hown hgr _
              have L3 : Hid (Es w1 v3 (xs ++ [⟨v 0, v 1, v 2, v 3⟩]) w7) := by
                refine ⟨?_, (HS2.out.bel.alloc HS2.out.bel.size _).grown hgr (by have := HS2.out.bel.size; simp; omega) (fun k hk => (World.ownsRow.lt HS2.out.own k hk).1)⟩
                have h2 : w7.ownsRow w1.heap.size 33 4 v3 (xs.length + 1) (valE (atE xs) xs.length ++ [.int .i64 (⟨v 0, v 1, v 2, v 3⟩ : En).f, .int .i64 (⟨v 0, v 1, v 2, v 3⟩ : En).l, .int .i64 (⟨v 0, v 1, v 2, v 3⟩ : En).c, .int .i64 (⟨v 0, v 1, v 2, v 3⟩ : En).m]) := hown
                rw [valE_more] at h2
                rw [List.length_append]
                exact h2
              have HX3 : Hid ((xs ++ [(⟨v 0, v 1, v 2, v 3⟩ : En)]).length = q + 1) := by
                show (xs ++ [(⟨v 0, v 1, v 2, v 3⟩ : En)]).length = q + 1
                rw [List.length_append, Hx.out]
                rfl
              clear hown hgr zn d0 d1 d2 d3
              go_wp2_with fail
              go_roundg (K - (q + 1) + 1)
              case measure => exact (by have := Hg.out; omega)
              case rel => exact ⟨q + 1, xs ++ [(⟨v 0, v 1, v 2, v 3⟩ : En)], by go_num, (by omega : K - (q + 1) < K - (q + 1) + 1), hlt, HX3.out, HR4.out, L3.out⟩
        · have HR3 : Hid (rrP s = none) := by
            have := HG2.out
            rw [ln_other h3] at this
            exact this
          have z6 : (((cutN 58 2 x).length : Nat) : Int) ≠ 3 := by omega
          have z7 : ((((cutN 58 2 x).length : Nat) : Int) != 3) = true := by simpa using z6
          have HB : Hid (Below w.heap.size w w2) := below_then HW.out B2.out HW.out.size
          obtain ⟨h1, h2⟩ := HN.out HR3.out
          subst h1 h2
          clear HN HY
          generalize (cutN 58 2 x).length = n3 at z6 z7 hc ⊢
          go_wp2_with fail
          go_ret2
          exact ⟨none, 0, rfl, rowE_zero _ _ _, HB.out⟩
      · obtain rfl : q = K := by have := Hq.out; omega
        have z4 : ¬ (q : Int) < (q : Int) := by omega
        have HR3 : Hid (rrP s = some xs) := by
          have := HG.out
          rw [← HK.out, List.drop_length] at this
          show rrP s = some xs
          rw [this]
          show (some ([] : List En)).map (xs ++ ·) = some xs
          simp
        obtain ⟨h1, h2⟩ := HY.out xs HR3.out
        obtain ⟨a, c, rfl, hN⟩ := OwE.nw HS.out.own
        have HN2 : Hid (RowE wr a xs.length (atE xs)) := hN.row
        have CE : Hid (∀ W, Below wr.heap.size wr W → Calls Tryd.prog 6 #[.slice a xs.length c] W fun e w' => e = .returned (.int .i64 E) ∧ Below W.heap.size W w') := fun W hW => by
          have := rlogErr_any a xs.length c (atE xs) W (HN2.out.step hW)
          rw [← h1] at this
          exact this
        have HM : Hid (M = if E = 0 then xs else []) := by
          show M = _
          rw [h1]
          exact h2
        clear h1 h2 hN HN HY HR3 HG hlt HC HS HR2
        go_wp2_with fail
        refine (CE.out _ (Below.refl _ _)).mono ?_
        rintro e w2 ⟨rfl, hb⟩
        have HR5 : Hid (RowE w2 a xs.length (atE xs)) := HN2.out.step hb
        have B2 : Hid (Below w.heap.size w w2) := below_then HW.out hb HW.out.size
        clear hb CE HN2
        by_cases e0 : E = 0
        · subst e0
          have HM2 : Hid (M = xs) := HM.out.trans (if_pos rfl)
          clear HM
          go_wp2_with fail
          go_ret2
          rw [HM2.out]
          exact ⟨a, c, rfl, HR5.out, B2.out⟩
        · have q1 : (E != 0) = true := by simpa using e0
          have HM2 : Hid (M = []) := HM.out.trans (if_neg e0)
          clear HM
          go_wp2_with fail
          go_ret2
          rw [HM2.out]
          exact ⟨none, 0, rfl, rowE_zero _ _ _, B2.out⟩
  · have q1 : (tx last).toList.isEmpty = false := by rw [ByteArray.toList_eq, tx_data]; simpa using hla
    have HR2 : Hid (rrP s = none) := HRR.out.trans (if_neg hla)
    clear hla HRR HY
    obtain ⟨h1, h2⟩ := HN.out HR2.out
    subst h1 h2
    go_wp2_with fail
    go_ret2
    exact ⟨none, 0, rfl, rowE_zero _ _ _, B1.out⟩

set_option maxHeartbeats 1000000 in
theorem rread_large (s : List UInt8) (w : World) (hl : 4095 < s.length) (hm : s.length ≤ 140737488351232) :
    Calls Tryd.prog 12 #[.string (tx s)] w fun e w' => e = .returned (.tuple #[.slice none 0 0, .int .i64 2]) ∧ Below w.heap.size w w' := by
  have z1 : (4095 : Int) < ((tx s).size : Int) := by
    have : (tx s).size = s.length := rfl
    rw [this]
    omega
  clear hl hm
  go_enter Tryd.func12, Tryd.ntmps12
  go_wp2_with fail
  go_ret2
  exact ⟨rfl, Below.refl _ _⟩
theorem rread_any (s : List UInt8) (w : World) (hl : s.length ≤ 140737488351232) (hv : Vb w) :
    Calls Tryd.prog 12 #[.string (tx s)] w fun e w' => ∃ a c, e = .returned (.tuple #[.slice a (rdL s).length c, .int .i64 (rdN s)]) ∧ RowE w' a (rdL s).length (atE (rdL s)) ∧ Below w.heap.size w w' := by
  by_cases h : 4095 < s.length
  · have e1 : rdN s = 2 := by unfold rdN; rw [if_pos h]
    have e2 : rdL s = [] := by unfold rdL; rw [if_pos h]
    rw [e1, e2]
    refine (rread_large s w h hl).mono ?_
    rintro e w' ⟨he, hb⟩
    exact ⟨none, 0, he, rowE_zero _ _ _, hb⟩
  · exact rread_lines s w (by omega) hv

end Go.Proofs.YtkklinjamcfppaaDoor
