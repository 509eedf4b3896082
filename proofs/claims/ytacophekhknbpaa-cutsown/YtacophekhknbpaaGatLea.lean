/-
  Contract of cuts.least, over any closure that tells of a set whether something holds.
-/
import Derived.Test.YtacophekhknbpaaGatCut
import Derived.Test.YtacophekhknbpaaSetRow
namespace Go.Proofs.Ytacophekhknbpaa
open Go.RowKit
set_option linter.unusedVariables false

/-- the least ones among the first sets -/
def preL (F : Nat → Bool) (m s : Nat) : List Nat := (pre m s).filter (isL F)
theorem preL_no {F : Nat → Bool} {m s : Nat} (h : ¬ pop s = m) : preL F m (s + 1) = preL F m s := by
  unfold preL
  rw [pre_no h]
theorem preL_not {F : Nat → Bool} {m s : Nat} (h : pop s = m) (h2 : isL F s = false) : preL F m (s + 1) = preL F m s := by
  unfold preL
  rw [pre_yes h, List.filter_append]
  simp [h2]
theorem preL_yes {F : Nat → Bool} {m s : Nat} (h : pop s = m) (h2 : isL F s = true) : preL F m (s + 1) = preL F m s ++ [s] := by
  unfold preL
  rw [pre_yes h, List.filter_append]
  simp [h2]
theorem pre_zero : (pre 0 0).length ≤ 0 * 256 := by
  simp only [pre, List.range_zero, List.flatMap_nil, List.filter_nil, List.append_nil, List.length_nil, Nat.zero_mul, Nat.le_refl]
theorem pre_more {m : Nat} (s : Nat) (h : (pre m 0).length ≤ m * 256) : (pre m s).length ≤ m * 256 + s := by
  induction s with
  | zero => rw [Nat.add_zero]; exact h
  | succ s ih =>
    by_cases q : pop s = m
    · rw [pre_yes q, List.length_append, List.length_singleton]
      omega
    · rw [pre_no q]
      omega
theorem pre_len (m s : Nat) : (pre m s).length ≤ m * 256 + s := by
  induction m generalizing s with
  | zero => exact pre_more s pre_zero
  | succ m ih =>
    refine pre_more s ?_
    rw [← pre_row]
    have := ih 256
    omega
theorem preL_len (F : Nat → Bool) {m s : Nat} (hm : m ≤ 8) (hs : s ≤ 256) : (preL F m s).length ≤ 2304 := by
  have h1 := List.length_filter_le (isL F) (pre m s)
  have h2 := pre_len m s
  unfold preL
  omega

theorem OwL.next {w W : World} {F : Nat → Bool} {m : Nat} {v : Value} (h : OwL w (preL F m 256) v W) : OwL w (preL F (m + 1) 0) v W := by
  unfold preL at h ⊢
  rw [← pre_row]
  exact h
theorem OwL.last {w W : World} {F : Nat → Bool} {v : Value} (h : OwL w (preL F 9 0) v W) : OwL w (leastL F) v W := h

set_option maxHeartbeats 4000000 in
set_option maxRecDepth 100000 in
theorem least_any (FN : Nat) (P : Addr) (F : Nat → Bool) (w : World) (hent : EntF FN) (C0 : HoldsC FN P w F) :
    Calls Try.prog 38 #[.func (.func FN) #[] #[.pointer (some P)]] w fun e w' => ∃ v, e = .returned v ∧ RowU w (leastL F) v w' := by
  have C : Hid (HoldsC FN P w F) := C0
  have HE : Hid (EntF FN) := hent
  obtain ⟨i, i1, i2, i3, i4⟩ := infoU16
  clear C0 hent
  go_enter Try.func38, Try.ntmps38
  go_wp2_with fail
  go_loopg [3, 4] (9 + 1) (fun g v u wr => ∃ m : Nat, u = .int .i64 m ∧ 9 - m < g ∧ m ≤ 9 ∧ Hid (OwL w (preL F m 0) v wr))
  case atStart => exact ⟨0, rfl, by omega, by omega, owL_nil w⟩
  case round =>
    obtain ⟨m, rfl, hgo, hm, HO⟩ := hrel
    by_cases hlt : m < 9
    · have y0 : (m : Int) ≤ 8 := by omega
      go_wp2_with fail
      go_loopg [3, 5] (256 + 1) (fun g v u wr => ∃ s : Nat, u = .int .u16 s ∧ 256 - s < g ∧ s ≤ 256 ∧ Hid (OwL w (preL F m s) v wr))
      case atStart => exact ⟨0, rfl, by omega, by omega, HO.out⟩
      case round =>
        clear HO
        obtain ⟨s, rfl, hg, hs, HO⟩ := hrel
        by_cases hls : s < 256
        · have y1 : (s : Int) < 256 := by omega
          have HS : Hid (s < 256) := hls
          have KN : Hid (¬ pop s = m → preL F m (s + 1) = preL F m s) := preL_no
          have KM : Hid (pop s = m → isL F s = false → preL F m (s + 1) = preL F m s) := preL_not
          have KY : Hid (pop s = m → isL F s = true → preL F m (s + 1) = preL F m s ++ [s]) := preL_yes
          have CP : Hid (∀ W, Calls Try.prog 44 #[.int .u16 s] W fun e w' => e = .returned (.int .i64 (pop s : Nat)) ∧ Below W.heap.size W w') := fun W => ones_any s hls W
          generalize pop s = z at KN KM KY CP
          rename World => wr
          go_wp2_with fail
          refine (CP.out _).mono ?_
          rintro e w1 ⟨rfl, hb⟩
          have O1 : Hid (_) := HO.out.step hb
          clear hb HO CP
          by_cases hz : z = m
          · subst hz
            clear KN
            go_wp2_with fail
            refine (isLeast_any FN P F s _ HS.out HE.out (C.out.step O1.out.bel)).mono ?_
            rintro e w2 ⟨rfl, hb⟩
            have O2 : Hid (_) := O1.out.step hb
            clear hb O1
            obtain ⟨x, hx⟩ : ∃ x, isL F s = x := ⟨_, rfl⟩
            rw [hx]
            cases x
            · have Q : Hid (preL F z (s + 1) = preL F z s) := KM.out (by trivial) hx
              clear KM KY hx
              go_wp2_with fail
              go_roundg (256 - (s + 1) + 1)
              case measure => omega
              case rel => exact ⟨s + 1, by go_num, by omega, by omega, by rw [Q.out]; exact O2.out⟩
            · have Q : Hid (preL F z (s + 1) = preL F z s ++ [s]) := KY.out (by trivial) hx
              have c1 := preL_len F (m := z) (s := s) (by omega) (by omega)
              clear KM KY hx
              go_wp2_with (at_builtin; refine wpList_append_own _ rfl _ _ 24 rfl w.heap.size 23 i (.int .u16 0) 1 2 Try.underlying24 i1 i2 i3 i4 rfl (by omega) _ _ _ rfl (O2.out.own.alloc _) ⟨w2.heap.size, 0, none⟩ 1 _ (numsU [s]) rfl ?qc1 ?qc2 ?qc3 ?qc4 ?qc5 ?qc6 ?_)
              case qc1 => rfl
              case qc2 =>
                intro k v hk
                rcases k with _ | k
                · obtain rfl : v = _ := (Option.some.inj hk).symm
                  first | exact hk | (rw [Addr.add_lit]; go_simp)
                · exact absurd hk (by simp [numsU])
              case qc3 => exact fun v hv => numsU_one hv
              case qc4 => unfold maxLen; omega
              case qc5 => omega
              case qc6 => have := O2.out.bel.size; simp; omega
              intro v3 w3 hown hgr _
              have L3 : Hid (OwL w (preL F z (s + 1)) v3 w3) := by
                refine ⟨?_, (O2.out.bel.alloc O2.out.bel.size _).grown hgr (by have := O2.out.bel.size; simp; omega) (fun k hk => (O2.out.own.lt k hk).1)⟩
                rw [Q.out, List.length_append]
                unfold numsU
                rw [List.map_append]
                exact hown
              clear hown hgr
              go_wp2_with fail
              go_roundg (256 - (s + 1) + 1)
              case measure => omega
              case rel => exact ⟨s + 1, by go_num, by omega, by omega, L3.out⟩
          · have y2 : ((z : Int) == (m : Int)) = false := by simp; omega
            have Q : Hid (preL F m (s + 1) = preL F m s) := KN.out hz
            clear KN KM KY hz
            go_wp2_with fail
            go_roundg (256 - (s + 1) + 1)
            case measure => omega
            case rel => exact ⟨s + 1, by go_num, by omega, by omega, by rw [Q.out]; exact O1.out⟩
        · have y1 : ¬ (s : Int) < 256 := by omega
          obtain rfl : s = 256 := by omega
          have O1 : Hid (_) := HO.out.next
          go_wp2_with fail
          go_roundg (9 - (m + 1) + 1)
          case measure => omega
          case rel => exact ⟨m + 1, by go_num, by omega, by omega, O1.out⟩
    · obtain rfl : m = 9 := by omega
      have O1 : Hid (_) := HO.out.last
      go_wp2_with fail
      go_ret
      exact ⟨_, rfl, O1.out.row⟩

end Go.Proofs.Ytacophekhknbpaa
