/-
  Whatever is handed in, the law AgreeSays returns true: View, Mid and Odd answer what the document says. No condition.
-/
import Derived.Test.YtokfdapocnmafaaAgrSays
import Derived.Test.YtokfdapocnmafaaOpenZ
import Derived.Test.YtokfdapocnmafaaOpenN
import Derived.Laws.StructEq
import Derived.ProofKit
namespace Go.Proofs.Ytokfdapocnmafaa.agreeSays
open Go.ChangeShapes Go.WideShapes Go.ChangeAt Go.RowKit
set_option linter.unusedVariables false

theorem own : ownKnob Try.prog.godebug = none := by kernel_rfl
theorem laidOut : laidOutB Try.prog = true := by kernel_rfl

theorem allNum21 {H : Type} {enc : TypeId × Value → H} {w : World} {base : Nat} {spare : Nat → Bool} {held : Bool} : AllNum enc Try.prog w base spare held .i32 21 1 := allNum_int Try.underlying21

theorem allNum22 {H : Type} {enc : TypeId × Value → H} {w : World} {base : Nat} {spare : Nat → Bool} {held : Bool} : AllNum enc Try.prog w base spare held .i32 22 4 := allNum_array (m := 4) (n := 1) Try.underlying22 (by kernel_rfl) (by kernel_rfl) allNum21

theorem allNum23 {H : Type} {enc : TypeId × Value → H} {w : World} {base : Nat} {spare : Nat → Bool} {held : Bool} : AllNum enc Try.prog w base spare held .i32 23 16 := allNum_array (m := 4) (n := 4) Try.underlying23 (by kernel_rfl) (by kernel_rfl) allNum22

theorem allNum24 {H : Type} {enc : TypeId × Value → H} {w : World} {base : Nat} {spare : Nat → Bool} {held : Bool} : AllNum enc Try.prog w base spare held .i32 24 64 := allNum_array (m := 4) (n := 16) Try.underlying24 (by kernel_rfl) (by kernel_rfl) allNum23

theorem allNum26 {H : Type} {enc : TypeId × Value → H} {w : World} {base : Nat} {spare : Nat → Bool} {held : Bool} : AllNum enc Try.prog w base spare held .i32 26 80 := allNum_struct Try.underlying26 (by kernel_rfl) fun j hj => if h0 : j < 16 then ⟨0, _, 16, rfl, (by kernel_rfl), by show 0 ≤ j; omega, by show j < 0 + 16; omega, allNum23⟩ else ⟨1, _, 64, rfl, (by kernel_rfl), by show 16 ≤ j; omega, by show j < 16 + 64; omega, allNum24⟩


set_option maxHeartbeats 4000000 in
set_option maxRecDepth 100000 in
theorem bad (T : Nat → Int) (k : Int) (hk : k < 0 ∨ 4 ≤ k) (w : World) : Calls Try.prog 3 #[.agg (tk T), .int .i64 k] w fun e w' => e = .returned (.bool true) ∧ Below w.heap.size w w' := by
  have H0 : Hid (TB (w.alloc (.cells (tk T) 26)) w.heap.size T) := tb_new w T _
  have B0 : Hid (Below w.heap.size w (w.alloc (.cells (tk T) 26))) := (Below.refl _ w).alloc (Nat.le_refl _) _
  have HK : Hid (k < 0 ∨ 4 ≤ k) := hk
  clear hk
  have q1 := eq4i 0 0 0 0
  have q2 := eq4b false false false false
  go_enter Try.func3, Try.ntmps3
  go_wp2_with (refine wpList_load_talk rfl _ rfl _ rfl T (by exact H0.out) ?_)
  refine (view_bad T k HK.out _).mono ?_
  rintro e w1 ⟨rfl, hb⟩
  have H1 : Hid (TB (w1.alloc (.cells #[.int .i32 0, .int .i32 0, .int .i32 0, .int .i32 0] 22)) w.heap.size T) := Blk.alloc (Blk.step H0.out hb) _
  have B1 : Hid (Below w.heap.size w w1) := B0.out.trans (hb.mono B0.out.size)
  clear hb H0 B0
  go_wp2_with (refine wpList_load_talk rfl _ rfl _ rfl T (by exact H1.out) ?_)
  obtain ⟨W1, hW⟩ : ∃ W1, W1 = w1.alloc (.cells #[.int .i32 0, .int .i32 0, .int .i32 0, .int .i32 0] 22) := ⟨_, rfl⟩
  have X1 : Hid (Blk W1 w1.heap.size 4 (fun _ => .int .i32 0)) := by rw [hW]; exact blk4i w1 (fun _ => 0) _
  have B2 : Hid (Below w.heap.size w W1) := by rw [hW]; exact B1.out.alloc B1.out.size _
  rw [← hW] at H1 ⊢
  clear hW B1
  generalize w1.heap.size = b5 at *
  refine (amid_bad T k HK.out _).mono ?_
  rintro e w2 ⟨rfl, hb⟩
  have H2 : Hid (TB w2 w.heap.size T) := Blk.step H1.out hb
  have X2 : Hid (Blk w2 b5 4 (fun _ => .int .i32 0)) := X1.out.step hb
  have B3 : Hid (Below w.heap.size w w2) := B2.out.trans (hb.mono B2.out.size)
  clear hb H1 X1 B2
  go_wp2_with (refine wpList_load_talk rfl _ rfl _ rfl T (by exact H2.out) ?_)
  refine (odd_bad T k HK.out _).mono ?_
  rintro e w3 ⟨rfl, hb⟩
  have X3 : Hid (Blk w3 b5 4 (fun _ => .int .i32 0)) := X2.out.step hb
  have B4 : Hid (Below w.heap.size w w3) := B3.out.trans (hb.mono B3.out.size)
  clear hb H2 X2 B3
  have x0 := X3.out.cell 0 (by omega)
  have x1 := X3.out.cell 1 (by omega)
  have x2 := X3.out.cell 2 (by omega)
  have x3 := X3.out.cell 3 (by omega)
  have xl := X3.out.lt
  rcases HK.out with h | h
  · go_wp2_with fail
    go_ret
    exact ⟨rfl, B4.out.alloc B4.out.size _⟩
  · have h0 : ¬ k < 0 := by omega
    have h3 : 3 < k := by omega
    clear h
    go_wp2_with fail
    go_ret
    exact ⟨rfl, B4.out.alloc B4.out.size _⟩

set_option maxHeartbeats 8000000 in
set_option maxRecDepth 100000 in
theorem good (T : Nat → Int) (k : Nat) (hk : k < 4) (w : World) : Calls Try.prog 3 #[.agg (tk T), .int .i64 k] w fun e w' => e = .returned (.bool true) ∧ Below w.heap.size w w' := by
  have H0 : Hid (TB (w.alloc (.cells (tk T) 26)) w.heap.size T) := tb_new w T _
  have B0 : Hid (Below w.heap.size w (w.alloc (.cells (tk T) 26))) := (Below.refl _ w).alloc (Nat.le_refl _) _
  have z0 : (k : Int) < 4 := by omega
  have z3 : ¬ (3 : Int) < (k : Int) := by omega
  have z4 : ¬ (k : Int) < 0 := by omega
  have hs0 : (w.alloc (.cells (tk T) 26)).heap.size = w.heap.size + 1 := by simp
  obtain ⟨m, hm⟩ := mid_there (vw T k) 4 (by omega)
  have HM : Hid (IsMid (vw T k) 4 m) := hm
  clear hm
  have q1 := eq4i (vw T k 0) (vw T k 1) (vw T k 2) (vw T k 3)
  have q2 := eq4b (od T k 0) (od T k 1) (od T k 2) (od T k 3)
  go_enter Try.func3, Try.ntmps3
  go_wp2_with (refine wpList_load_talk rfl _ rfl _ rfl T (by exact H0.out) ?_)
  refine (view_any T k hk _).mono ?_
  rintro e w1 ⟨rfl, hb⟩
  have S1 : Hid (w.heap.size < w1.heap.size) := by have := hb.size; rw [hs0] at this; show _ < _; omega
  clear hs0
  have H1 : Hid (TB (w1.alloc (.cells #[.int .i32 (vw T k 0), .int .i32 (vw T k 1), .int .i32 (vw T k 2), .int .i32 (vw T k 3)] 22)) w.heap.size T) := Blk.alloc (Blk.step H0.out hb) _
  have B1 : Hid (Below w.heap.size w w1) := B0.out.trans (hb.mono B0.out.size)
  clear hb H0 B0
  go_wp2_with (refine wpList_load_talk rfl _ rfl _ rfl T (by exact H1.out) ?_)
  obtain ⟨W1, hW⟩ : ∃ W1, W1 = w1.alloc (.cells #[.int .i32 (vw T k 0), .int .i32 (vw T k 1), .int .i32 (vw T k 2), .int .i32 (vw T k 3)] 22) := ⟨_, rfl⟩
  have X1 : Hid (Blk W1 w1.heap.size 4 (fun i => .int .i32 (vw T k i))) := by rw [hW]; exact blk4i w1 (vw T k) _
  have B2 : Hid (Below w.heap.size w W1) := by rw [hW]; exact B1.out.alloc B1.out.size _
  rw [← hW] at H1 ⊢
  clear hW B1
  generalize w1.heap.size = b5 at *
  refine (amid_any T k hk m HM.out _).mono ?_
  rintro e w2 ⟨rfl, hb⟩
  have H2 : Hid (TB w2 w.heap.size T) := Blk.step H1.out hb
  have X2 : Hid (Blk w2 b5 4 (fun i => .int .i32 (vw T k i))) := X1.out.step hb
  have B3 : Hid (Below w.heap.size w w2) := B2.out.trans (hb.mono B2.out.size)
  clear hb H1 X1 B2
  go_wp2_with (refine wpList_load_talk rfl _ rfl _ rfl T (by exact H2.out) ?_)
  refine (odd_any T k hk _).mono ?_
  rintro e w3 ⟨rfl, hb⟩
  obtain ⟨W3, hW⟩ : ∃ W3, W3 = w3.alloc (.cells #[.bool (od T k 0), .bool (od T k 1), .bool (od T k 2), .bool (od T k 3)] 32) := ⟨_, rfl⟩
  have H3 : Hid (TB W3 w.heap.size T) := by rw [hW]; exact Blk.alloc (Blk.step H2.out hb) _
  have X3 : Hid (Blk W3 b5 4 (fun i => .int .i32 (vw T k i))) := by rw [hW]; exact (X2.out.step hb).alloc _
  have O3 : Hid (Blk W3 w3.heap.size 4 (fun i => .bool (od T k i))) := by rw [hW]; exact blk4b w3 (od T k) _
  have B4 : Hid (Below w.heap.size w W3) := by rw [hW]; exact (B3.out.trans (hb.mono B3.out.size)).alloc (B3.out.trans (hb.mono B3.out.size)).size _
  clear hb H2 X2 B3
  go_upto_region 4 with (fail)
  rw [← hW]
  clear hW
  generalize w3.heap.size = b9 at *
  go_wp2_with (refine wpList_load_talk rfl _ rfl _ rfl T (by exact H3.out) ?_)
  refine (rview_any T k hk _).mono ?_
  rintro e w4 ⟨rfl, hb⟩
  obtain ⟨W4, hW⟩ : ∃ W4, W4 = w4.alloc (.cells #[.int .i32 (vw T k 0), .int .i32 (vw T k 1), .int .i32 (vw T k 2), .int .i32 (vw T k 3)] 22) := ⟨_, rfl⟩
  have H4 : Hid (TB W4 w.heap.size T) := by rw [hW]; exact Blk.alloc (Blk.step H3.out hb) _
  have X4 : Hid (Blk W4 b5 4 (fun i => .int .i32 (vw T k i))) := by rw [hW]; exact (X3.out.step hb).alloc _
  have O4 : Hid (Blk W4 b9 4 (fun i => .bool (od T k i))) := by rw [hW]; exact (O3.out.step hb).alloc _
  have W11 : Hid (Blk W4 w4.heap.size 4 (fun i => .int .i32 (vw T k i))) := by rw [hW]; exact blk4i w4 (vw T k) _
  have B5 : Hid (Below w.heap.size w W4) := by rw [hW]; exact (B4.out.trans (hb.mono B4.out.size)).alloc (B4.out.trans (hb.mono B4.out.size)).size _
  clear hb H3 X3 O3 B4
  go_upto_region 7 with (fail)
  rw [← hW]
  clear hW
  generalize w4.heap.size = b11 at *
  go_wp2_with fail
  refine (rmiddle_any b11 0 4 4 (vw T k) m W4 (by omega) (by omega) HM.out (fun t ht => by rw [Nat.zero_add]; exact W11.out.cell t ht)).mono ?_
  rintro e w5 ⟨rfl, hw5⟩
  obtain rfl : W4 = w5 := hw5.symm
  obtain ⟨W6, hW⟩ : ∃ W6, W6 = W4.alloc (.cells #[.bool false, .bool false, .bool false, .bool false] 32) := ⟨_, rfl⟩
  have G0 : Hid (Gx w T k b5 b9 b11 W4.heap.size (odV T k 0) W6) := by
    rw [hW]
    exact ⟨Blk.alloc H4.out _, X4.out.alloc _, O4.out.alloc _, W11.out.alloc _, (blk4b W4 (fun _ => false) _).as (fun j hj => by simp [odV]), B5.out.alloc B5.out.size _, H4.out.lt, X4.out.lt, O4.out.lt, W11.out.lt⟩
  clear H4 X4 O4 W11 B5 HM S1
  go_upto_region 9 with (fail)
  rw [← hW]
  clear hW
  generalize W4.heap.size = b14 at *
  go_wp2_with fail
  go_loopg [74] 5 (fun g u wr => ∃ j : Nat, u = .int .i64 j ∧ 4 - j < g ∧ j ≤ 4 ∧ Hid (Gx w T k b5 b9 b11 b14 (odV T k j) wr))
  case atStart => exact ⟨0, rfl, by omega, by omega, G0⟩
  case round =>
    clear G0
    obtain ⟨j, rfl, hg, hj, HG⟩ := hrel
    by_cases hlt : j < 4
    · have y1 : (j : Int) < 4 := by omega
      obtain ⟨w0, rfl⟩ : ∃ w0, w0 = wr := ⟨wr, rfl⟩
      go_wp2_with fail
      go_loopg [16, 77] 5 (fun g s u wr2 => ∃ i d : Nat, u = .int .i64 i ∧ s = .int .i64 (cn T j k i : Nat) ∧ 4 - i < g ∧ i ≤ 4 ∧ wr2 = w0.drewN d)
      case atStart => exact ⟨0, 0, rfl, rfl, by omega, by omega, rfl⟩
      case round =>
        obtain ⟨i, d, rfl, rfl, hg2, hi, rfl⟩ := hrel
        by_cases hlt2 : i < 4
        · have y2 : (i : Int) < 4 := by omega
          have c1 := cn_le T j k i
          by_cases e1 : i = j
          · have n1 : ((i : Int) != (j : Int)) = false := by simp; omega
            have E : Hid (cn T j k (i + 1) = cn T j k i) := cn_no (by simp [gy, e1])
            generalize cn T j k i = C at E c1 ⊢
            clear e1
            go_wp2_with fail
            go_big_quiet (fail)
            go_wp2_with fail
            go_roundg (4 - (i + 1) + 1)
            case measure => omega
            case rel => exact ⟨i + 1, _, by go_num, by rw [E.out], by omega, by omega, rfl⟩
          · have n1 : ((i : Int) != (j : Int)) = true := by simp; omega
            by_cases e2 : i = k
            · have n2 : ((i : Int) != (k : Int)) = false := by simp; omega
              have E : Hid (cn T j k (i + 1) = cn T j k i) := cn_no (by simp [gy, e2])
              generalize cn T j k i = C at E c1 ⊢
              clear e1 e2
              go_wp2_with fail
              go_big_quiet (fail)
              go_wp2_with fail
              go_roundg (4 - (i + 1) + 1)
              case measure => omega
              case rel => exact ⟨i + 1, _, by go_num, by rw [E.out], by omega, by omega, rfl⟩
            · have n2 : ((i : Int) != (k : Int)) = true := by simp; omega
              by_cases e3 : j = k
              · have n3 : ((j : Int) != (k : Int)) = false := by simp; omega
                have E : Hid (cn T j k (i + 1) = cn T j k i) := cn_no (by simp [gy, e3])
                generalize cn T j k i = C at E c1 ⊢
                clear e1 e2 e3
                go_wp2_with fail
                go_big_quiet (fail)
                go_wp2_with fail
                go_roundg (4 - (i + 1) + 1)
                case measure => omega
                case rel => exact ⟨i + 1, _, by go_num, by rw [E.out], by omega, by omega, rfl⟩
              · have n3 : ((j : Int) != (k : Int)) = true := by simp; omega
                have x0 := HG.out.tb.said hlt2 hk
                have x1 := HG.out.tb.told hlt2 hlt hk
                cases e4 : gs T i j k
                · have n4 : (told T i j k != said T i k) = false := e4
                  have E : Hid (cn T j k (i + 1) = cn T j k i) := cn_no (by simp [gy, e4])
                  generalize cn T j k i = C at E c1 ⊢
                  clear e4
                  generalize told T i j k = t1 at *
                  generalize said T i k = t0 at *
                  clear e1 e2 e3
                  go_wp2_with fail
                  go_big_quiet (fail)
                  go_wp2_with fail
                  go_roundg (4 - (i + 1) + 1)
                  case measure => omega
                  case rel => exact ⟨i + 1, _, by go_num, by rw [E.out], by omega, by omega, rfl⟩
                · have n4 : (told T i j k != said T i k) = true := e4
                  have E : Hid (cn T j k (i + 1) = cn T j k i + 1) := cn_yes (by simp [gy, e1, e2, e3, e4])
                  generalize cn T j k i = C at E c1 ⊢
                  clear e4
                  generalize told T i j k = t1 at *
                  generalize said T i k = t0 at *
                  clear e1 e2 e3
                  go_wp2_with fail
                  go_big_quiet (fail)
                  go_wp2_with fail
                  go_roundg (4 - (i + 1) + 1)
                  case measure => omega
                  case rel => exact ⟨i + 1, _, by go_num, by rw [E.out]; go_num, by omega, by omega, rfl⟩
        · have y2 : ¬ (i : Int) < 4 := by omega
          obtain rfl : i = 4 := by omega
          have Hd : Hid (Gx w T k b5 b9 b11 b14 (odV T k j) (w0.drewN d)) := HG.out.drewN d
          have hq := cn_od T hlt hk
          have x0 := Hd.out.d14.cell j hlt
          have x1 := Hd.out.d14.froz j hlt
          generalize odV T k j j = yv at x0
          have Hn : Hid (Gx w T k b5 b9 b11 b14 (odV T k (j + 1)) ((w0.drewN d).setCell ⟨b14, j, none⟩ (.bool (od T k j)))) := Hd.out.set hlt (odV_next T k j)
          clear Hd HG
          generalize cn T j k 4 = C at *
          generalize od T k j = o at Hn hq
          go_wp2_with fail
          go_roundg (4 - (j + 1) + 1)
          case measure => omega
          case rel => exact ⟨j + 1, by go_num, by omega, by omega, Hn⟩
    · have y1 : ¬ (j : Int) < 4 := by omega
      obtain rfl : j = 4 := by omega
      have a0 := HG.out.v5.cell 0 (by omega)
      have a1 := HG.out.v5.cell 1 (by omega)
      have a2 := HG.out.v5.cell 2 (by omega)
      have a3 := HG.out.v5.cell 3 (by omega)
      have c0 := HG.out.w11.cell 0 (by omega)
      have c1 := HG.out.w11.cell 1 (by omega)
      have c2 := HG.out.w11.cell 2 (by omega)
      have c3 := HG.out.w11.cell 3 (by omega)
      have o0 := HG.out.o9.cell 0 (by omega)
      have o1 := HG.out.o9.cell 1 (by omega)
      have o2 := HG.out.o9.cell 2 (by omega)
      have o3 := HG.out.o9.cell 3 (by omega)
      have d0 : wr.cell? ⟨b14, 0, none⟩ = some (.bool (od T k 0)) := HG.out.d14.cell 0 (by omega)
      have d1 : wr.cell? ⟨b14, 1, none⟩ = some (.bool (od T k 1)) := HG.out.d14.cell 1 (by omega)
      have d2 : wr.cell? ⟨b14, 2, none⟩ = some (.bool (od T k 2)) := HG.out.d14.cell 2 (by omega)
      have d3 : wr.cell? ⟨b14, 3, none⟩ = some (.bool (od T k 3)) := HG.out.d14.cell 3 (by omega)
      go_wp2_with fail
      go_ret
      exact ⟨rfl, HG.out.bel⟩

theorem walk (t : Nat → Int) (k : Int) (w : World) (h_t : ∀ j, (Lit.int .i32 (t j)).wf = true) (h_k : (Lit.int .i64 k).wf = true) :
    Calls Try.prog 3 #[.agg (rowA .i32 80 t), .int .i64 k] w fun e w' => e = .returned (.bool true) ∧ Below w.heap.size w w' :=
  if h : 0 ≤ k ∧ k < 4 then by
    obtain ⟨n, rfl⟩ : ∃ n : Nat, k = n := ⟨k.toNat, by omega⟩
    exact good t n (by omega) w
  else bad t k (by omega) w

/-! ### THE ROW's STEP -/
set_option maxRecDepth 100000 in
theorem lifted (os : Os) (started : os.Started) (H : Type) (enc : TypeId × Value → H) :
    ReturnsInHanded {} Try.checked os 3 .any (Rows.agreeSaysSpec.pre6 enc Try.prog Try.f3 Rows.agreeSaysRow.domain false) (Rows.agreeSaysSpec.post enc Try.prog Try.f3 false true false false) := by
  refine returnsInHanded_of_change_sized (C := Try.checked) own started (by kernel_rfl) Try.func3
    (ChangeSpec.witness6 (enc := enc) (C := Try.checked) false ⟨#[], #[.agg #[.int .i32 0, .int .i32 0, .int .i32 0, .int .i32 0, .int .i32 0, .int .i32 0, .int .i32 0, .int .i32 0, .int .i32 0, .int .i32 0, .int .i32 0, .int .i32 0, .int .i32 0, .int .i32 0, .int .i32 0, .int .i32 0, .int .i32 0, .int .i32 0, .int .i32 0, .int .i32 0, .int .i32 0, .int .i32 0, .int .i32 0, .int .i32 0, .int .i32 0, .int .i32 0, .int .i32 0, .int .i32 0, .int .i32 0, .int .i32 0, .int .i32 0, .int .i32 0, .int .i32 0, .int .i32 0, .int .i32 0, .int .i32 0, .int .i32 0, .int .i32 0, .int .i32 0, .int .i32 0, .int .i32 0, .int .i32 0, .int .i32 0, .int .i32 0, .int .i32 0, .int .i32 0, .int .i32 0, .int .i32 0, .int .i32 0, .int .i32 0, .int .i32 0, .int .i32 0, .int .i32 0, .int .i32 0, .int .i32 0, .int .i32 0, .int .i32 0, .int .i32 0, .int .i32 0, .int .i32 0, .int .i32 0, .int .i32 0, .int .i32 0, .int .i32 0, .int .i32 0, .int .i32 0, .int .i32 0, .int .i32 0, .int .i32 0, .int .i32 0, .int .i32 0, .int .i32 0, .int .i32 0, .int .i32 0, .int .i32 0, .int .i32 0, .int .i32 0, .int .i32 0, .int .i32 0, .int .i32 0], .int .i64 0], []⟩ 8 (by kernel_rfl) (by kernel_rfl) (by kernel_rfl) (by kernel_rfl)) ?_
  intro W base args ds gs before hval0 hW hcnd hsz0 _
  have hval : ∀ (j : Nat) t v, Try.f3.params[j]? = some t → args[j]? = some v → Value.okWide Try.prog W .any base t v := hval0
  have hW' := hW
  obtain ⟨p, q, hA0, hV, rfl, hfz, hnd⟩ := hW
  have hA : DataW.TrodAll enc Try.prog W 0 (fun _ => true) true Try.f3.params.toList args.toList ds p := hA0
  rw [Try.params3] at hA hval
  obtain ⟨v_0, vs_0, d_0, ds_0, p_0, q_0, hargs, rfl, rfl, h_0, r_0⟩ := trodAll_cons hA
  obtain ⟨v_1, vs_1, d_1, ds_1, p_1, q_1, rfl, rfl, rfl, h_1, r_1⟩ := trodAll_cons r_0
  obtain ⟨rfl, rfl, rfl⟩ := trodAll_nil r_1
  obtain rfl : args = #[v_0, v_1] := by cases args; simp_all
  obtain ⟨rfl, rfl⟩ := trodVars_none hV
  have hz_0 : Light Try.prog 26 d_0 := light_of hsz0 (j := 0) (by first | rfl | (rw [Try.params3]; rfl)) rfl
  have k_0 := h_0
  have lt_0 : ∀ x ∈ p_0, x.block < W.heap.size := by obtain ⟨m, hm⟩ := k_0; exact DataW.trod_lt m _ _ _ hm
  obtain ⟨cs_0, rfl, _⟩ := okWide_struct Try.underlying26 (hval 0 26 v_0 rfl rfl)
  obtain ⟨t, e_0, h_t⟩ := (by obtain ⟨fuel, hf⟩ := h_0; exact allNum_row allNum26 hf : ∃ T : Nat → Int, cs_0.toList = (rowA .i32 80 T).toList ∧ ∀ j, (Lit.int .i32 (T j)).wf = true)
  obtain rfl : cs_0 = rowA .i32 80 t := Array.toList_inj.1 e_0
  clear e_0
  have hz_1 : Light Try.prog 3 d_1 := light_of hsz0 (j := 1) (by first | rfl | (rw [Try.params3]; rfl)) rfl
  have k_1 := h_1
  have lt_1 : ∀ x ∈ p_1, x.block < W.heap.size := by obtain ⟨m, hm⟩ := k_1; exact DataW.trod_lt m _ _ _ hm
  obtain ⟨k, rfl, rfl, rfl, h_k⟩ := open_int Try.underlying3 (hval 1 3 v_1 rfl rfl) h_1
  clear hA0 hval0
  refine (walk t k W h_t h_k).mono fun e W' ⟨he, bel⟩ => ?_
  subst he
  exact ⟨_, rfl, _, _, _, [], _, [], hW', trodAll_mk1 (shut_bool Try.underlying4 _), (trodAll_cons_mk (Below.trod laidOut (by kernel_rfl) (of_decide_eq_true (by kernel_rfl)) k_0 bel lt_0) (trodAll_cons_mk (Below.trod laidOut (by kernel_rfl) (of_decide_eq_true (by kernel_rfl)) k_1 bel lt_1) trodAll_mk0)), rfl, bel.frame _, fun h => by cases h⟩

theorem over : Rows.agreeSaysRow.holds Try.pinned (OpenSpec.ofChange Rows.agreeSaysSpec) :=
  OpenClaim.holds_of_wide 3 Try.f3 rfl rfl rfl rfl rfl rfl rfl ⟨rfl, rfl, rfl, rfl, rfl⟩ rfl rfl rfl rfl rfl (by kernel_rfl) Try.func3 (by kernel_rfl)
    (of_decide_eq_true (by kernel_rfl)) (by unfold Func.isWrapper; first | (rw [if_pos (by decide +kernel)]; kernel_rfl) | (rw [if_neg (by decide +kernel)]; exact ⟨rfl, rfl⟩))
    (fun os started H enc _ => lifted os started H enc)


end Go.Proofs.Ytokfdapocnmafaa.agreeSays
namespace Go.Proofs.Ytokfdapocnmafaa
/-- THE STATEMENT -/
theorem agreeSays_holds : Rows.AgreeSaysSaid := agreeSays.over
#print axioms agreeSays_holds
end Go.Proofs.Ytokfdapocnmafaa
