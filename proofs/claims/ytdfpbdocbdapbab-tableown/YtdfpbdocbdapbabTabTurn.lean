/-
  Contracts of package table: Turn hands back a new table, turned round.
-/
import Derived.Test.YtdfpbdocbdapbabTabAt
import Derived.Deep.OwnRows
import Derived.Deep.DeepCutAuto
import Derived.Deep.LoopGhost
namespace Go.Proofs.Ytdfpbdocbdapbab
open Go.RowKit

set_option maxHeartbeats 400000 in
theorem turn_err (aX aY : Option Addr) (nX cX nY cY : Nat) (e : Int) (w : World) (he : e ≠ 0) (hk : Chk w aX aY nX cX nY cY e) :
    Calls Try.prog 6 #[.agg #[.slice aX nX cX, .slice aY nY cY]] w fun r w' => r = .returned (.tuple #[.agg #[.slice none 0 0, .slice none 0 0], .int .i64 e]) ∧ Below w.heap.size w w' := by
  have he' : (e != 0) = true := by simpa using he
  have C : Hid (Chk w aX aY nX cX nY cY e) := hk
  clear hk he
  go_enter Try.func6, Try.ntmps6
  go_wp2_with fail
  refine (C.out _ (((Below.refl _ _).alloc (Nat.le_refl _) _).alloc (by simp) _)).mono ?_
  rintro r w1 ⟨rfl, hb⟩
  have hbel : Hid (Below w.heap.size w w1) := (((Below.refl _ _).alloc (Nat.le_refl _) _).alloc (by simp) _).trans (hb.mono (by simp; omega))
  obtain ⟨hc, hf⟩ := bcell hb
  have hz : w.heap.size + 1 < w1.heap.size := by have := hb.size; simp at this; omega
  clear hb
  go_wp2
  exact bodyPost_ret (v := .tuple #[.agg #[.slice none 0 0, .slice none 0 0], .int .i64 e]) (by simp [results, Try.results6, go_sem, hc]) rfl ⟨rfl, (hbel.out.setCell (by simp) _).setCell (by simp) _⟩

set_option maxHeartbeats 400000 in
theorem turn_arg (bX oX bY oY n cX cY : Nat) (X Y : Nat → Int) (w : World) (g : Good w bX oX bY oY n X Y) (h0 : X 0 = -2147483648) :
    Calls Try.prog 6 #[.agg #[.slice (some ⟨bX, oX, none⟩) n cX, .slice (some ⟨bY, oY, none⟩) n cY]] w fun r w' => r = .returned (.tuple #[.agg #[.slice none 0 0, .slice none 0 0], .int .i64 1]) ∧ Below w.heap.size w w' := by
  have G : Hid (Good w bX oX bY oY n X Y) := g
  have hp : (0 : Int) < (n : Int) := by have := g.pos; omega
  clear g
  go_enter Try.func6, Try.ntmps6
  go_wp2_with fail
  refine (G.out.chk cX cY _ (((Below.refl _ _).alloc (Nat.le_refl _) _).alloc (by simp) _)).mono ?_
  rintro r w1 ⟨rfl, hb⟩
  have hbel : Hid (Below w.heap.size w w1) := (((Below.refl _ _).alloc (Nat.le_refl _) _).alloc (by simp) _).trans (hb.mono (by simp; omega))
  obtain ⟨hc, hf⟩ := bcell hb
  have hz : w.heap.size + 1 < w1.heap.size := by have := hb.size; simp at this; omega
  have c0 : w1.cell? ⟨bX, oX, none⟩ = some (.int .i32 (-2147483648)) := by
    have := (G.out.below hbel.out).hX 0 G.out.pos
    rw [h0] at this
    exact this
  clear hb h0
  go_wp2
  exact bodyPost_ret (v := .tuple #[.agg #[.slice none 0 0, .slice none 0 0], .int .i64 1]) (by simp [results, Try.results6, go_sem, hc]) rfl ⟨rfl, (hbel.out.setCell (by simp) _).setCell (by simp) _⟩

theorem three_heap (w : World) (o1 o2 o3 : Obj) : (((w.alloc o1).alloc o2).alloc o3).drew.heap[w.heap.size]? = some o1 ∧ (((w.alloc o1).alloc o2).alloc o3).drew.heap[w.heap.size + 1]? = some o2 ∧ (((w.alloc o1).alloc o2).alloc o3).drew.heap[w.heap.size + 1 + 1]? = some o3 := by
  show (((w.heap.push o1).push o2).push o3)[w.heap.size]? = some o1 ∧ (((w.heap.push o1).push o2).push o3)[w.heap.size + 1]? = some o2 ∧ (((w.heap.push o1).push o2).push o3)[w.heap.size + 1 + 1]? = some o3
  simp only [Array.getElem?_push, Array.size_push]
  refine ⟨?_, ?_, ?_⟩
  · rw [if_neg (by omega), if_neg (by omega), if_pos trivial]
  · rw [if_neg (by omega), if_pos trivial]
  · rw [if_pos trivial]
/-- two new rows of zeroes, and a new table of the two -/
def New (w wc : World) (p : Value) (n : Nat) : Prop :=
  ∃ g1 g2 g3 : Nat, p = .pointer (some ⟨g3, 0, none⟩) ∧ w.heap.size ≤ g1 ∧ w.heap.size ≤ g2 ∧ w.heap.size ≤ g3 ∧ g1 ≠ g2 ∧ g1 ≠ g3 ∧ g2 ≠ g3 ∧ wc.rowIs g1 21 n (fun _ => .int .i32 0) ∧ wc.rowIs g2 21 n (fun _ => .int .i32 0) ∧
    wc.rowIs g3 24 2 (fun j => if j = 0 then .slice (some ⟨g1, 0, none⟩) n n else .slice (some ⟨g2, 0, none⟩) n n) ∧ Below w.heap.size w wc
theorem rowIs_made_at {w : World} {b n : Nat} {z : Value} {t : TypeId} (h : w.heap[b]? = some (.cells (madeCells #[z] n) t)) : w.rowIs b t n (fun _ => z) :=
  ⟨_, h, size_madeCells _ _, fun i hi => by simp [madeCells, hi, Nat.mod_one]⟩
theorem new_of {w wc : World} {n : Nat} (g1 g2 g3 : Nat) (d : w.heap.size ≤ g1 ∧ w.heap.size ≤ g2 ∧ w.heap.size ≤ g3 ∧ g1 ≠ g2 ∧ g1 ≠ g3 ∧ g2 ≠ g3) (h1 : wc.heap[g1]? = some (.cells (madeCells #[.int .i32 0] n) 21)) (h2 : wc.heap[g2]? = some (.cells (madeCells #[.int .i32 0] n) 21))
    (h3 : wc.heap[g3]? = some (.cells #[.slice (some ⟨g1, 0, none⟩) n n, .slice (some ⟨g2, 0, none⟩) n n] 24)) (hb : Below w.heap.size w wc) : New w wc (.pointer (some ⟨g3, 0, none⟩)) n :=
  ⟨g1, g2, g3, rfl, d.1, d.2.1, d.2.2.1, d.2.2.2.1, d.2.2.2.2.1, d.2.2.2.2.2, rowIs_made_at h1, rowIs_made_at h2, ⟨_, h3, rfl, fun i hi => by
    match i, hi with
    | 0, _ => rfl
    | 1, _ => rfl⟩, hb⟩
theorem below3 (w : World) (o1 o2 o3 : Obj) : Below w.heap.size w (((w.alloc o1).alloc o2).alloc o3).drew := ((((Below.refl _ _).alloc (Nat.le_refl _) _).alloc (by simp) _).alloc (by simp; omega) _).drew
theorem new_123 (w : World) (n : Nat) : New w (((w.alloc (.cells (madeCells #[.int .i32 0] n) 21)).alloc (.cells (madeCells #[.int .i32 0] n) 21)).alloc (.cells #[.slice (some ⟨w.heap.size, 0, none⟩) n n, .slice (some ⟨w.heap.size + 1, 0, none⟩) n n] 24)).drew (.pointer (some ⟨w.heap.size + 1 + 1, 0, none⟩)) n :=
  have H := three_heap w
  new_of _ _ _ (by omega) (H _ _ _).1 (H _ _ _).2.1 (H _ _ _).2.2 (below3 _ _ _ _)
theorem new_213 (w : World) (n : Nat) : New w (((w.alloc (.cells (madeCells #[.int .i32 0] n) 21)).alloc (.cells (madeCells #[.int .i32 0] n) 21)).alloc (.cells #[.slice (some ⟨w.heap.size + 1, 0, none⟩) n n, .slice (some ⟨w.heap.size, 0, none⟩) n n] 24)).drew (.pointer (some ⟨w.heap.size + 1 + 1, 0, none⟩)) n :=
  have H := three_heap w
  new_of _ _ _ (by omega) (H _ _ _).2.1 (H _ _ _).1 (H _ _ _).2.2 (below3 _ _ _ _)
theorem new_132 (w : World) (n : Nat) : New w (((w.alloc (.cells (madeCells #[.int .i32 0] n) 21)).alloc (.cells #[.slice (some ⟨w.heap.size, 0, none⟩) n n, .slice (some ⟨w.heap.size + 1 + 1, 0, none⟩) n n] 24)).alloc (.cells (madeCells #[.int .i32 0] n) 21)).drew (.pointer (some ⟨w.heap.size + 1, 0, none⟩)) n :=
  have H := three_heap w
  new_of _ _ _ (by omega) (H _ _ _).1 (H _ _ _).2.2 (H _ _ _).2.1 (below3 _ _ _ _)
theorem new_231 (w : World) (n : Nat) : New w (((w.alloc (.cells (madeCells #[.int .i32 0] n) 21)).alloc (.cells #[.slice (some ⟨w.heap.size + 1 + 1, 0, none⟩) n n, .slice (some ⟨w.heap.size, 0, none⟩) n n] 24)).alloc (.cells (madeCells #[.int .i32 0] n) 21)).drew (.pointer (some ⟨w.heap.size + 1, 0, none⟩)) n :=
  have H := three_heap w
  new_of _ _ _ (by omega) (H _ _ _).2.2 (H _ _ _).1 (H _ _ _).2.1 (below3 _ _ _ _)
theorem new_312 (w : World) (n : Nat) : New w (((w.alloc (.cells #[.slice (some ⟨w.heap.size + 1, 0, none⟩) n n, .slice (some ⟨w.heap.size + 1 + 1, 0, none⟩) n n] 24)).alloc (.cells (madeCells #[.int .i32 0] n) 21)).alloc (.cells (madeCells #[.int .i32 0] n) 21)).drew (.pointer (some ⟨w.heap.size, 0, none⟩)) n :=
  have H := three_heap w
  new_of _ _ _ (by omega) (H _ _ _).2.1 (H _ _ _).2.2 (H _ _ _).1 (below3 _ _ _ _)
theorem new_321 (w : World) (n : Nat) : New w (((w.alloc (.cells #[.slice (some ⟨w.heap.size + 1 + 1, 0, none⟩) n n, .slice (some ⟨w.heap.size + 1, 0, none⟩) n n] 24)).alloc (.cells (madeCells #[.int .i32 0] n) 21)).alloc (.cells (madeCells #[.int .i32 0] n) 21)).drew (.pointer (some ⟨w.heap.size, 0, none⟩)) n :=
  have H := three_heap w
  new_of _ _ _ (by omega) (H _ _ _).2.2 (H _ _ _).2.1 (H _ _ _).1 (below3 _ _ _ _)

/-- the first k points are turned round -/
structure TurnSt (w1 wr : World) (g1 g2 g3 n : Nat) (X Y : Nat → Int) (k : Nat) : Prop where
  r1 : wr.rowIs g1 21 n (fun j => .int .i32 (if n - 1 - j < k then -X (n - 1 - j) else 0))
  r2 : wr.rowIs g2 21 n (fun j => .int .i32 (if n - 1 - j < k then Y (n - 1 - j) else 0))
  r3 : wr.rowIs g3 24 2 (fun j => if j = 0 then .slice (some ⟨g1, 0, none⟩) n n else .slice (some ⟨g2, 0, none⟩) n n)
  bel : Below w1.heap.size w1 wr
theorem TurnSt.step {w1 wr : World} {g1 g2 g3 n : Nat} {X Y : Nat → Int} {k i : Nat} (h : TurnSt w1 wr g1 g2 g3 n X Y k) (hk : i + k + 1 = n) (l1 : w1.heap.size ≤ g1) (l2 : w1.heap.size ≤ g2) (d12 : g1 ≠ g2) (d13 : g1 ≠ g3) (d23 : g2 ≠ g3) :
    TurnSt w1 ((wr.setCell ⟨g1, i, none⟩ (.int .i32 (-X k))).setCell ⟨g2, i, none⟩ (.int .i32 (Y k))) g1 g2 g3 n X Y (k + 1) where
  r1 := ((h.r1.set i (.int .i32 (-X k))).setOther d12 _).congr fun j hj => by
    by_cases e : j = i
    · subst e
      rw [if_pos rfl, if_pos (by omega), show n - 1 - j = k by omega]
    · rw [if_neg e]
      by_cases e' : n - 1 - j < k
      · rw [if_pos e', if_pos (by omega)]
      · rw [if_neg e', if_neg (by omega)]
  r2 := ((h.r2.setOther (a := ⟨g1, i, none⟩) d12.symm (.int .i32 (-X k))).set i (.int .i32 (Y k))).congr fun j hj => by
    by_cases e : j = i
    · subst e
      rw [if_pos rfl, if_pos (by omega), show n - 1 - j = k by omega]
    · rw [if_neg e]
      by_cases e' : n - 1 - j < k
      · rw [if_pos e', if_pos (by omega)]
      · rw [if_neg e', if_neg (by omega)]
  r3 := (h.r3.setOther (a := ⟨g1, i, none⟩) d13.symm _).setOther (a := ⟨g2, i, none⟩) d23.symm _
  bel := (h.bel.setCell (p := ⟨g1, i, none⟩) l1 _).setCell (p := ⟨g2, i, none⟩) l2 _
theorem TurnSt.drew {w1 wr : World} {g1 g2 g3 n : Nat} {X Y : Nat → Int} {k : Nat} (h : TurnSt w1 wr g1 g2 g3 n X Y k) : TurnSt w1 wr.drew g1 g2 g3 n X Y k := ⟨h.r1, h.r2, h.r3, h.bel.drew⟩
theorem cell_set_other {w : World} {b o : Nat} {a : Addr} {v : Value} (h : b ≠ a.block) : (w.setCell a v).cell? ⟨b, o, none⟩ = w.cell? ⟨b, o, none⟩ := World.cell?_of_block (w := w) (Below.heap_setCell w a v b h)
theorem frozen_set_other {w : World} {b o : Nat} {a : Addr} {v : Value} (h : b ≠ a.block) : (w.setCell a v).frozen? ⟨b, o, none⟩ = w.frozen? ⟨b, o, none⟩ := World.frozen?_of_block (w := w) (Below.heap_setCell w a v b h)
theorem info_int32 : (Try.prog.info? 21).map (fun i => (i.zero, i.size, i.bytes)) = some (some (.int .i32 0), 1, 4) := by kernel_rfl

set_option maxHeartbeats 1000000 in
theorem turn_two (bX oX bY oY n cX cY : Nat) (X Y : Nat → Int) (w : World) (g : Good w bX oX bY oY n X Y) (h0 : X 0 ≠ -2147483648) :
    Calls Try.prog 6 #[.agg #[.slice (some ⟨bX, oX, none⟩) n cX, .slice (some ⟨bY, oY, none⟩) n cY]] w fun r w' => ∃ g1 g2 : Nat, r = .returned (.tuple #[.agg #[.slice (some ⟨g1, 0, none⟩) n n, .slice (some ⟨g2, 0, none⟩) n n], .int .i64 0]) ∧
      w.heap.size ≤ g1 ∧ w.heap.size ≤ g2 ∧ w'.rowIs g1 21 n (fun j => .int .i32 (-X (n - 1 - j))) ∧ w'.rowIs g2 21 n (fun j => .int .i32 (Y (n - 1 - j))) ∧ Below w.heap.size w w' ∧ g1 ≠ g2 := by
  have G : Hid (Good w bX oX bY oY n X Y) := g
  have hp : (0 : Int) < (n : Int) := by have := g.pos; omega
  have h64 := g.most
  clear g
  go_enter Try.func6, Try.ntmps6
  go_wp2_with fail
  refine (G.out.chk cX cY _ (((Below.refl _ _).alloc (Nat.le_refl _) _).alloc (by simp) _)).mono ?_
  rintro r w1 ⟨rfl, hb⟩
  have hbel : Hid (Below w.heap.size w w1) := (((Below.refl _ _).alloc (Nat.le_refl _) _).alloc (by simp) _).trans (hb.mono (by simp; omega))
  have bx0 : w1.cell? ⟨w.heap.size, 0, none⟩ = some (.slice (some ⟨bX, oX, none⟩) n cX) := (hb.cell (p := ⟨w.heap.size, 0, none⟩) (by simp; omega)).trans (by go_simp)
  have bx1 : w1.cell? ⟨w.heap.size, 1, none⟩ = some (.slice (some ⟨bY, oY, none⟩) n cY) := (hb.cell (p := ⟨w.heap.size, 1, none⟩) (by simp; omega)).trans (by go_simp)
  have hz : w.heap.size + 1 < w1.heap.size := by have := hb.size; simp at this; omega
  have rr : w1.rowIs (w.heap.size + 1) 24 2 (fun _ => .slice none 0 0) := by
    have := World.rowIs_alloc (w.alloc (.cells #[.slice (some ⟨bX, oX, none⟩) n cX, .slice (some ⟨bY, oY, none⟩) n cY] 24)) #[.slice none 0 0, .slice none 0 0] 24 (fun _ => .slice none 0 0) (fun i hi => by
      match i, hi with
      | 0, _ => rfl
      | 1, _ => rfl)
    simp only [World.size_alloc] at this
    exact this.of_block (hb.block _ (by simp))
  have c0 : w1.cell? ⟨bX, oX, none⟩ = _ := (G.out.below hbel.out).hX 0 G.out.pos
  have q0 : (X 0 == -2147483648) = false := by simpa using h0
  have hmk := run_make_row' (P := Try.prog) 22 21 (.int .i32 0) 4 Try.underlying22 info_int32 rfl .i64 .i64 n (by omega) (by omega)
  have RR : Hid (w1.rowIs (w.heap.size + 1) 24 2 (fun _ => .slice none 0 0)) := rr
  have H0 : Hid (X 0 ≠ -2147483648) := h0
  clear hb h0 rr
  go_upto_region 7 with (fail)
  go_cut [6] (fun s wc => New w1 wc s n)
  case first =>
    go_region
    all_goals (try go_wp2)
    all_goals go_meet
    all_goals (first | exact new_123 _ _ | exact new_213 _ _ | exact new_132 _ _ | exact new_231 _ _ | exact new_312 _ _ | exact new_321 _ _)
  case rest =>
    obtain ⟨g1, g2, g3, rfl, l1, l2, l3, d12, d13, d23, r1, r2, r3, B1⟩ := hcut
    have S0 : TurnSt w1 wc g1 g2 g3 n X Y 0 := ⟨r1.congr (fun j _ => by simp), r2.congr (fun j _ => by simp), r3, B1⟩
    clear r1 r2 r3 B1 c0 q0 hmk
    have L1 : Hid (w1.heap.size ≤ g1) := l1
    have L2 : Hid (w1.heap.size ≤ g2) := l2
    have L3 : Hid (w1.heap.size ≤ g3) := l3
    clear l1 l2 l3
    go_wp2
    go_loopw [29] (fun i wr => ∃ k : Nat, k ≤ n ∧ i = .int .i64 k ∧ TurnSt w1 wr g1 g2 g3 n X Y k) (fun i _ => n - (intOf i).toNat)
    case atStart => exact ⟨0, Nat.zero_le _, rfl, S0⟩
    case round =>
      obtain ⟨k, hk, rfl, st⟩ := hrel
      clear S0
      have ST : Hid (TurnSt w1 wr g1 g2 g3 n X Y k) := st
      clear st
      by_cases hlt : k < n
      · obtain ⟨i, hi⟩ : ∃ i, i + k + 1 = n := ⟨n - 1 - k, by omega⟩
        have HI : Hid (i + k + 1 = n) := hi
        have ei : (n : Int) - 1 - (k : Int) = (i : Int) := by omega
        have e1 : IntKind.i64.wrap ((n : Int) - 1) = (n : Int) - 1 := by rw [IntKind.wrap_i64]; omega
        have e2 : IntKind.i64.wrap ((n : Int) - 1 - (k : Int)) = (i : Int) := by rw [IntKind.wrap_i64]; omega
        have k0 : (k : Int) < (n : Int) := by omega
        have i0 : (i : Int) < (n : Int) := by omega
        have xk := (G.out.below hbel.out).hX k hlt
        have yk := (G.out.below hbel.out).hY k hlt
        have i1 := G.out.iX k
        have i2 := rises_le ((risesB_iff X n).1 G.out.rises) (Nat.zero_le k) hlt
        have i3 := H0.out
        have i4 := G.out.iX 0
        have b1 : -2147483647 ≤ X k := by omega
        have b2 : X k ≤ 2147483647 := by omega
        clear hi i1 i2 i3 i4
        have t0 : wr.cell? ⟨g3, 0, none⟩ = some (.slice (some ⟨g1, 0, none⟩) n n) := ST.out.r3.cell (i := 0) (by omega)
        have a0 := (ST.out.bel.cell (p := ⟨w.heap.size, 0, none⟩) (by show w.heap.size < w1.heap.size; omega)).trans bx0
        have x0 := (ST.out.bel.cell (p := ⟨bX, oX + k, none⟩) (G.out.below hbel.out).lX).trans xk
        have s1 := ST.out.r1.cell (i := i) (by omega)
        have f1 := ST.out.r1.frozen i
        have n1 : w.heap.size ≠ g1 := by have := L1.out; omega
        have n2 : bY ≠ g1 := by have := L1.out; have := (G.out.below hbel.out).lY; omega
        have t1 : wr.cell? ⟨g3, 1, none⟩ = some (.slice (some ⟨g2, 0, none⟩) n n) := ST.out.r3.cell (i := 1) (by omega)
        have a1 := (ST.out.bel.cell (p := ⟨w.heap.size, 1, none⟩) (by show w.heap.size < w1.heap.size; omega)).trans bx1
        have y0 := (ST.out.bel.cell (p := ⟨bY, oY + k, none⟩) (G.out.below hbel.out).lY).trans yk
        have t1' : ∀ v, (wr.setCell ⟨g1, i, none⟩ v).cell? ⟨g3, 1, none⟩ = some (.slice (some ⟨g2, 0, none⟩) n n) := fun v => (cell_set_other d13.symm).trans t1
        have a1' : ∀ v, (wr.setCell ⟨g1, i, none⟩ v).cell? ⟨w.heap.size, 1, none⟩ = some (.slice (some ⟨bY, oY, none⟩) n cY) := fun v => (cell_set_other n1).trans a1
        have y0' : ∀ v, (wr.setCell ⟨g1, i, none⟩ v).cell? ⟨bY, oY + k, none⟩ = some (.int .i32 (Y k)) := fun v => (cell_set_other n2).trans y0
        have s2' : ∀ v, (wr.setCell ⟨g1, i, none⟩ v).cell? ⟨g2, i, none⟩ = some (.int .i32 (if n - 1 - i < k then Y (n - 1 - i) else 0)) := fun v => (cell_set_other d12.symm).trans (ST.out.r2.cell (i := i) (by omega))
        have f2' : ∀ v, (wr.setCell ⟨g1, i, none⟩ v).frozen? ⟨g2, i, none⟩ = false := fun v => (frozen_set_other d12.symm).trans (ST.out.r2.frozen i)
        clear t1 a1 y0 n1 n2 xk yk bx0 bx1 hz
        rw [show n - 1 - i = k by have := HI.out; omega, if_neg (Nat.lt_irrefl k)] at s1
        simp only [show n - 1 - i = k by have := HI.out; omega, if_neg (Nat.lt_irrefl k)] at s2'
        go_wp2
        go_region
        go_wp2
        go_region
        go_wp2
        go_roundw
        case rel => exact ⟨k + 1, by omega, by go_num, (ST.out.step HI.out L1.out L2.out d12 d13 d23).drew.drew⟩
        case measure => simp [intOf]; omega
      · have e : k = n := by omega
        have t0 : wr.cell? ⟨g3, 0, none⟩ = some (.slice (some ⟨g1, 0, none⟩) n n) := ST.out.r3.cell (i := 0) (by omega)
        have t1 : wr.cell? ⟨g3, 1, none⟩ = some (.slice (some ⟨g2, 0, none⟩) n n) := ST.out.r3.cell (i := 1) (by omega)
        have rr : wr.rowIs (w.heap.size + 1) 24 2 (fun _ => .slice none 0 0) := RR.out.of_block (ST.out.bel.block _ (by omega))
        have q0 := rr.cell (i := 0) (by omega)
        have q1 := rr.cell (i := 1) (by omega)
        have f0 := rr.frozen 0
        have f1 := rr.frozen 1
        have m1 : w.heap.size + 1 ≠ g1 := by have := L1.out; omega
        have m2 : w.heap.size + 1 ≠ g2 := by have := L2.out; omega
        have M1 : Hid (w.heap.size + 1 ≠ g1) := m1
        have M2 : Hid (w.heap.size + 1 ≠ g2) := m2
        clear rr m1 m2
        have E : Hid (k = n) := e
        clear e
        go_wp2
        refine bodyPost_ret (v := .tuple #[.agg #[.slice (some ⟨g1, 0, none⟩) n n, .slice (some ⟨g2, 0, none⟩) n n], .int .i64 0]) (by simp [results, Try.results6, go_sem, q0, q1]) rfl ⟨g1, g2, rfl, by have := L1.out; omega, by have := L2.out; omega, ?_, ?_, ?_, d12⟩
        · refine ((ST.out.r1.setOther (a := ⟨w.heap.size + 1, 0, none⟩) M1.out.symm _).setOther (a := ⟨w.heap.size + 1, 1, none⟩) M1.out.symm _).congr fun j hj => ?_
          rw [if_pos (by have := E.out; omega)]
        · refine ((ST.out.r2.setOther (a := ⟨w.heap.size + 1, 0, none⟩) M2.out.symm _).setOther (a := ⟨w.heap.size + 1, 1, none⟩) M2.out.symm _).congr fun j hj => ?_
          rw [if_pos (by have := E.out; omega)]
        · exact ((hbel.out.trans (ST.out.bel.mono hbel.out.size)).setCell (p := ⟨w.heap.size + 1, 0, none⟩) (by simp) _).setCell (p := ⟨w.heap.size + 1, 1, none⟩) (by simp) _

theorem turn_any (bX oX bY oY n cX cY : Nat) (X Y : Nat → Int) (w : World) (g : Good w bX oX bY oY n X Y) (h0 : X 0 ≠ -2147483648) :
    Calls Try.prog 6 #[.agg #[.slice (some ⟨bX, oX, none⟩) n cX, .slice (some ⟨bY, oY, none⟩) n cY]] w fun r w' => ∃ g1 g2 : Nat, r = .returned (.tuple #[.agg #[.slice (some ⟨g1, 0, none⟩) n n, .slice (some ⟨g2, 0, none⟩) n n], .int .i64 0]) ∧
      w.heap.size ≤ g1 ∧ w.heap.size ≤ g2 ∧ w'.rowIs g1 21 n (fun j => .int .i32 (-X (n - 1 - j))) ∧ w'.rowIs g2 21 n (fun j => .int .i32 (Y (n - 1 - j))) ∧ Below w.heap.size w w' :=
  (turn_two bX oX bY oY n cX cY X Y w g h0).mono fun _ _ ⟨g1, g2, h1, h2, h3, h4, h5, h6, _⟩ => ⟨g1, g2, h1, h2, h3, h4, h5, h6⟩

end Go.Proofs.Ytdfpbdocbdapbab
