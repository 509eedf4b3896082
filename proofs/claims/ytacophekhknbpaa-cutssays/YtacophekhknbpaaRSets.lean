/-
  The document's Sets: of all sets in their order, those of which something holds and within which no set so far lies.
-/
import Derived.Test.YtacophekhknbpaaSetFun
import Derived.Test.YtacophekhknbpaaGatCuts
import Derived.Laws.BitsAllLaws
namespace Go.Proofs.Ytacophekhknbpaa
open Go.RowKit
set_option linter.unusedVariables false

theorem andNot_zero {s t : Nat} (hs : s < 65536) (ht : t < 65536) : t &&& (65535 - s) = 0 ↔ t &&& s = t := by
  have e : 65535 - s = 2 ^ 16 - (s + 1) := by omega
  rw [e]
  constructor
  · intro h
    apply Nat.eq_of_testBit_eq
    intro i
    have hi := congrArg (fun x => x.testBit i) h
    simp only [Nat.testBit_and, Nat.testBit_two_pow_sub_succ (show s < 2 ^ 16 from hs), Nat.zero_testBit] at hi
    rw [Nat.testBit_and]
    by_cases q : i < 16
    · rw [decide_eq_true q, Bool.true_and] at hi
      cases a : t.testBit i
      · rfl
      · rw [a] at hi
        simpa using hi
    · have : t.testBit i = false := Nat.testBit_lt_two_pow (Nat.lt_of_lt_of_le ht (Nat.pow_le_pow_right (show 0 < 2 by decide) (show 16 ≤ i by omega)))
      rw [this]
      rfl
  · intro h
    apply Nat.eq_of_testBit_eq
    intro i
    have hi := congrArg (fun x => x.testBit i) h
    simp only [Nat.testBit_and] at hi
    simp only [Nat.testBit_and, Nat.testBit_two_pow_sub_succ (show s < 2 ^ 16 from hs), Nat.zero_testBit]
    cases a : t.testBit i
    · rfl
    · rw [a, Bool.true_and] at hi
      rw [hi]
      simp

theorem setsIn_any (B s t : Nat) (w : World) (hB : w.cell? ⟨B, 0, none⟩ = some (.int .u16 (s : Nat))) (hs : s < 65536) (ht : t < 65536) :
    Calls Try.prog 45 #[.int .u16 (t : Nat), .pointer (some ⟨B, 0, none⟩)] w fun e w' => e = .returned (.bool (t &&& s == t)) ∧ Below w.heap.size w w' := by
  have x1 : bits .andNot .u16 (t : Int) (s : Int) = ((t &&& (65535 - s) : Nat) : Int) := u16_andNot_nat t s ht hs
  have x2 : (t &&& s == t) = decide (t &&& (65535 - s) = 0) := by
    rw [Bool.eq_iff_iff, decide_eq_true_iff, andNot_zero hs ht, beq_iff_eq]
  have lB := lt_of_cell hB
  rw [x2]
  generalize t &&& (65535 - s) = z at x1 ⊢
  by_cases hz : z = 0
  · subst hz
    go_enter Try.func45, Try.ntmps45
    go_wp2_with fail
    go_ret
    exact ⟨rfl, Below.refl _ _⟩
  · have z2 : ((z : Int) == 0) = false := by simp only [beq_eq_false_iff_ne, ne_eq, Int.natCast_eq_zero]; exact hz
    rw [decide_eq_false hz]
    go_enter Try.func45, Try.ntmps45
    go_wp2_with fail
    go_ret
    exact ⟨rfl, Below.refl _ _⟩
theorem entF_sets : EntF 45 := entF_of Try.func45 (by kernel_rfl) rfl

/-- what the document's way has found among the first sets -/
def preS (F : Nat → Bool) (m s : Nat) : List Nat := setsL F (pre m s)
theorem preS_no {F : Nat → Bool} {m s : Nat} (h : ¬ pop s = m) : preS F m (s + 1) = preS F m s := by
  unfold preS
  rw [pre_no h]
theorem preS_yes {F : Nat → Bool} {m s : Nat} (h : pop s = m) : preS F m (s + 1) = stepL F (preS F m s) s := by
  unfold preS setsL
  rw [pre_yes h, List.foldl_append]
  rfl
theorem setsL_sub {F : Nat → Bool} (l : List Nat) {x : Nat} (h : x ∈ setsL F l) : x ∈ l := by
  unfold setsL at h
  have gen : ∀ (l acc : List Nat), x ∈ l.foldl (stepL F) acc → x ∈ acc ∨ x ∈ l := by
    intro l
    induction l with
    | nil => intro acc h; exact Or.inl h
    | cons y r ih =>
      intro acc h
      rcases ih (stepL F acc y) h with q | q
      · unfold stepL at q
        split at q
        · rcases List.mem_append.1 q with q | q
          · exact Or.inl q
          · exact Or.inr (by simp at q; simp [q])
        · exact Or.inl q
      · exact Or.inr (List.mem_cons_of_mem _ q)
  rcases gen l [] h with q | q
  · cases q
  · exact q
theorem setsL_len {F : Nat → Bool} (l : List Nat) : (setsL F l).length ≤ l.length := by
  unfold setsL
  have gen : ∀ (l acc : List Nat), (l.foldl (stepL F) acc).length ≤ acc.length + l.length := by
    intro l
    induction l with
    | nil => intro acc; exact Nat.le_refl _
    | cons y r ih =>
      intro acc
      have h1 := ih (stepL F acc y)
      have h2 : (stepL F acc y).length ≤ acc.length + 1 := by
        unfold stepL
        split
        · simp
        · omega
      simp only [List.foldl_cons, List.length_cons]
      omega
  have := gen l []
  simpa using this
theorem preS_len (F : Nat → Bool) {m s : Nat} (hm : m ≤ 8) (hs : s ≤ 256) : (preS F m s).length ≤ 2304 := by
  have h1 := setsL_len (F := F) (pre m s)
  have h2 := pre_len m s
  unfold preS
  omega
theorem preS_lt {F : Nat → Bool} {m s : Nat} (hs : s ≤ 256) {j : Nat} (hj : j < (preS F m s).length) : (preS F m s).getD j 0 < 65536 := by
  have h : (preS F m s).getD j 0 ∈ preS F m s := by
    rw [List.getD_eq_getElem?_getD, List.getElem?_eq_getElem hj]
    exact List.getElem_mem hj
  have := pre_lt hs (setsL_sub _ h)
  omega
theorem OwL.nextS {w W : World} {F : Nat → Bool} {m : Nat} {v : Value} (h : OwL w (preS F m 256) v W) : OwL w (preS F (m + 1) 0) v W := by
  unfold preS at h ⊢
  rw [← pre_row]
  exact h
theorem OwL.lastS {w W : World} {F : Nat → Bool} {v : Value} (h : OwL w (preS F 9 0) v W) : OwL w (setsL F order) v W := h

set_option maxHeartbeats 4000000 in
set_option maxRecDepth 100000 in
theorem rsets_any (FN : Nat) (P : Addr) (F : Nat → Bool) (w : World) (hent : EntF FN) (C0 : HoldsC FN P w F) :
    Calls Try.prog 15 #[.func (.func FN) #[] #[.pointer (some P)]] w fun e w' => ∃ v, e = .returned v ∧ RowU w (setsL F order) v w' := by
  have C : Hid (HoldsC FN P w F) := C0
  have hent : ∀ (args : Array Value) (W : World), (callFunc FN args).run Try.prog W = .ok (.enter FN args) W := hent
  obtain ⟨i, i1, i2, i3, i4⟩ := infoU16
  clear C0
  go_enter Try.func15, Try.ntmps15
  go_wp2_with fail
  go_loopg [3, 6] (9 + 1) (fun g v u wr => ∃ m : Nat, u = .int .i64 m ∧ 9 - m < g ∧ m ≤ 9 ∧ Hid (OwL w (preS F m 0) v wr))
  case atStart => exact ⟨0, rfl, by omega, by omega, owL_nil w⟩
  case round =>
    obtain ⟨m, rfl, hgo, hm, HO⟩ := hrel
    by_cases hlt : m < 9
    · have y0 : (m : Int) < 9 := by omega
      go_wp2_with fail
      go_loopg [3, 9] (256 + 1) (fun g v u wr => ∃ s : Nat, u = .int .u16 s ∧ 256 - s < g ∧ s ≤ 256 ∧ Hid (OwL w (preS F m s) v wr))
      case atStart => exact ⟨0, rfl, by omega, by omega, HO.out⟩
      case round =>
        clear HO
        obtain ⟨s, rfl, hg, hs, HO⟩ := hrel
        by_cases hls : s < 256
        · have y1 : (s : Int) < 256 := by omega
          have HS : Hid (s < 256) := hls
          have KN : Hid (¬ pop s = m → preS F m (s + 1) = preS F m s) := preS_no
          have KY : Hid (pop s = m → preS F m (s + 1) = stepL F (preS F m s) s) := preS_yes
          have CP : Hid (∀ W, Calls Try.prog 44 #[.int .u16 s] W fun e w' => e = .returned (.int .i64 (pop s : Nat)) ∧ Below W.heap.size W w') := fun W => ones_any s hls W
          generalize pop s = z at KN KY CP
          rename World => wr
          have O0 : Hid (_) := HO.out.alloc (.cells #[.int .u16 (s : Nat)] 23)
          have BX : (wr.alloc (.cells #[.int .u16 (s : Nat)] 23)).cell? ⟨wr.heap.size, 0, none⟩ = some (.int .u16 (s : Nat)) := by go_simp
          have HBX : Hid ((wr.alloc (.cells #[.int .u16 (s : Nat)] 23)).cell? ⟨wr.heap.size, 0, none⟩ = some (.int .u16 (s : Nat))) := BX
          clear BX
          by_cases hz : z = m
          · subst hz
            clear KN
            go_wp2_with fail
            refine (CP.out _).mono ?_
            rintro e w1 ⟨rfl, hb⟩
            have O1 : Hid (_) := O0.out.step hb
            have X1 : Hid (w1.cell? ⟨wr.heap.size, 0, none⟩ = some (.int .u16 (s : Nat))) := (hb.cell (p := ⟨wr.heap.size, 0, none⟩) (by simp)).trans HBX.out
            have x1 := X1.out
            have l1 := lt_of_cell x1
            clear hb HO CP O0 HBX
            have CF := C.out _ s HS.out O1.out.bel
            have KL : Hid ((preS F z s).length ≤ 2304 ∧ ∀ j, j < (preS F z s).length → (preS F z s).getD j 0 < 65536) := ⟨preS_len F (by omega) (by omega), fun j hj => preS_lt (by omega) hj⟩
            have KS : Hid (preS F z (s + 1) = stepL F (preS F z s) s) := KY.out (by trivial)
            clear KY
            generalize preS F z s = l at O1 KL KS
            obtain ⟨l', hl'⟩ : ∃ l', preS F z (s + 1) = l' := ⟨_, rfl⟩
            have HL : Hid (preS F z (s + 1) = l') := hl'
            rw [hl'] at KS
            clear hl'
            unfold stepL at KS
            obtain ⟨x, hx⟩ : ∃ x, F s = x := ⟨_, rfl⟩
            rw [hx] at CF KS
            clear hx
            cases x
            · have Q : Hid (l' = l) := KS.out
              clear KS
              go_wp2_with fail
              refine CF.mono ?_
              rintro e w2 ⟨rfl, hb⟩
              have O2 : Hid (_) := O1.out.step hb
              clear hb CF O1 x1 l1
              go_wp2_with fail
              go_roundg (256 - (s + 1) + 1)
              case measure => omega
              case rel => exact ⟨s + 1, by go_num, by omega, by omega, by rw [HL.out, Q.out]; exact O2.out⟩
            · rw [Bool.true_and] at KS
              go_wp2_with fail
              refine CF.mono ?_
              rintro e w2 ⟨rfl, hb⟩
              have O2 : Hid (OwL w l u3 w2) := O1.out.step hb
              have X2 : Hid (w2.cell? ⟨wr.heap.size, 0, none⟩ = some (.int .u16 (s : Nat))) := (hb.cell (p := ⟨wr.heap.size, 0, none⟩) (lt_of_cell X1.out)).trans X1.out
              have x2 := X2.out
              have l2 := lt_of_cell x2
              clear hb CF O1 x1 l1 X1
              obtain ⟨a3, c3, e3, h3, hru, _⟩ := O2.out.row
              subst e3
              have CC : Hid (Calls Try.prog 13 #[.slice a3 l.length c3, .func (.func 45) #[] #[.pointer (some ⟨wr.heap.size, 0, none⟩)]] w2 fun e w' => e = .returned (.bool (anyU (fun j => l.getD j 0 &&& s == l.getD j 0) l.length)) ∧ Below w2.heap.size w2 w') :=
                containsUP_any 45 ⟨wr.heap.size, 0, none⟩ a3 l.length c3 (fun j => l.getD j 0) _ w2 (by have := KL.out.1; omega) hru.rs entF_sets (fun j W hj hW => setsIn_any wr.heap.size s (l.getD j 0) W ((hW.cell (p := ⟨wr.heap.size, 0, none⟩) (lt_of_cell X2.out)).trans X2.out) (by have := HS.out; omega) (KL.out.2 j hj))
              rw [anyU_list (fun t => t &&& s == t) l] at CC
              obtain ⟨x, hx⟩ : ∃ x, (l.any fun t => t &&& s == t) = x := ⟨_, rfl⟩
              rw [hx] at CC KS
              clear hx hru h3
              cases x
              · have Q : Hid (l' = l ++ [s]) := KS.out
                have kl1 := KL.out.1
                clear KS
                go_wp2_with fail
                refine CC.out.mono ?_
                rintro e w3 ⟨rfl, hb⟩
                have O3 : Hid (OwL w l (.slice a3 l.length c3) w3) := O2.out.step hb
                have X3 : Hid (w3.cell? ⟨wr.heap.size, 0, none⟩ = some (.int .u16 (s : Nat))) := (hb.cell (p := ⟨wr.heap.size, 0, none⟩) (lt_of_cell X2.out)).trans X2.out
                have x3 := X3.out
                have l3 := lt_of_cell x3
                clear hb CC O2 x2 l2 X2
                go_wp2_with (at_builtin; refine wpList_append_own _ rfl _ _ 24 rfl w.heap.size 23 i (.int .u16 0) 1 2 Try.underlying24 i1 i2 i3 i4 rfl (by omega) _ _ _ rfl (O3.out.own.alloc _) ⟨w3.heap.size, 0, none⟩ 1 _ (numsU [s]) rfl ?qc1 ?qc2 ?qc3 ?qc4 ?qc5 ?qc6 ?_)
                case qc1 => rfl
                case qc2 =>
                  intro k v hk
                  rcases k with _ | k
                  · obtain rfl : v = _ := (Option.some.inj hk).symm
                    first | exact hk | (rw [Addr.add_lit]; go_simp)
                  · exact absurd hk (by simp [numsU])
                case qc3 => exact fun v hv => numsU_one hv
                case qc4 => unfold maxLen; omega
                case qc5 => omega
                case qc6 => have := O3.out.bel.size; simp; omega
                intro v3 w4 hown hgr _
                have L3 : Hid (OwL w l' v3 w4) := by
                  refine ⟨?_, (O3.out.bel.alloc O3.out.bel.size _).grown hgr (by have := O3.out.bel.size; simp; omega) (fun k hk => (O3.out.own.lt k hk).1)⟩
                  rw [Q.out, List.length_append]
                  unfold numsU
                  rw [List.map_append]
                  exact hown
                clear hown hgr x3 l3 X3
                go_wp2_with fail
                go_roundg (256 - (s + 1) + 1)
                case measure => omega
                case rel => exact ⟨s + 1, by go_num, by omega, by omega, by rw [HL.out]; exact L3.out⟩
              · have Q : Hid (l' = l) := KS.out
                clear KS
                go_wp2_with fail
                refine CC.out.mono ?_
                rintro e w3 ⟨rfl, hb⟩
                have O3 : Hid (_) := O2.out.step hb
                clear hb CC O2 x2 l2 X2
                go_wp2_with fail
                go_roundg (256 - (s + 1) + 1)
                case measure => omega
                case rel => exact ⟨s + 1, by go_num, by omega, by omega, by rw [HL.out, Q.out]; exact O3.out⟩
          · have y2 : ((z : Int) != (m : Int)) = true := by simp; omega
            have Q : Hid (preS F m (s + 1) = preS F m s) := KN.out hz
            clear KN KY hz
            go_wp2_with fail
            refine (CP.out _).mono ?_
            rintro e w1 ⟨rfl, hb⟩
            have O1 : Hid (_) := O0.out.step hb
            clear hb HO CP O0
            go_wp2_with fail
            go_roundg (256 - (s + 1) + 1)
            case measure => omega
            case rel => exact ⟨s + 1, by go_num, by omega, by omega, by rw [Q.out]; exact O1.out⟩
        · have y1 : ¬ (s : Int) < 256 := by omega
          obtain rfl : s = 256 := by omega
          have O1 : Hid (_) := HO.out.nextS
          go_wp2_with fail
          go_roundg (9 - (m + 1) + 1)
          case measure => omega
          case rel => exact ⟨m + 1, by go_num, by omega, by omega, O1.out⟩
    · obtain rfl : m = 9 := by omega
      have O1 : Hid (_) := HO.out.lastS
      go_wp2_with fail
      go_ret
      exact ⟨_, rfl, O1.out.row⟩

end Go.Proofs.Ytacophekhknbpaa
