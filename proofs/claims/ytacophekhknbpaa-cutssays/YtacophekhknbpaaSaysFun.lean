/-
  The functions that the law CutsSays makes.
-/
import Derived.Test.YtacophekhknbpaaRSets
import Derived.Test.YtacophekhknbpaaRGatFls
import Derived.Test.YtacophekhknbpaaGatMath
import Derived.Laws.BitsAllLaws
namespace Go.Proofs.Ytacophekhknbpaa
open Go.RowKit
set_option linter.unusedVariables false

theorem bigB_any (f : Nat → Nat) (n : Nat) : anyU (fun j => decide (255 < f j)) n = bigB f n := by
  induction n with
  | zero => rfl
  | succ n ih =>
    show (anyU (fun j => decide (255 < f j)) n || decide (255 < f n)) = (bigB f n || decide (255 < f n))
    rw [ih]
theorem mtB_any (f : Nat → Nat) (s n : Nat) : (!anyU (fun j => s &&& f j == 0) n) = mtB f s n := by
  induction n with
  | zero => rfl
  | succ n ih =>
    show (!(anyU (fun j => s &&& f j == 0) n || (s &&& f n == 0))) = (mtB f s n && decide (s &&& f n ≠ 0))
    rw [← ih, Bool.not_or]
    congr 1
    by_cases q : s &&& f n = 0 <;> simp [q]
theorem mtB_mono (f : Nat → Nat) (n : Nat) : Mono (fun s => mtB f s n) := fun s r hs hr h hm => by
  have gen : ∀ n, mtB f s n = true → mtB f r n = true := fun n => by
    induction n with
    | zero => intro _; rfl
    | succ n ih =>
      intro h1
      have h2 : (mtB f s n && decide (s &&& f n ≠ 0)) = true := h1
      rw [Bool.and_eq_true, decide_eq_true_eq] at h2
      refine mtB_yes (ih h2.1) ?_
      intro h3
      apply h2.2
      have h4 : s &&& r = s := h
      rw [← h4, Nat.and_assoc, h3, Nat.and_zero]
  exact gen n hm

theorem says1_any (s : Nat) (w : World) : Calls Try.prog 14 #[.int .u16 (s : Nat)] w fun e w' => e = .returned (.bool (decide (255 < s))) ∧ Below w.heap.size w w' := by
  by_cases h : 255 < s
  · have z : (255 : Int) < (s : Int) := by omega
    rw [decide_eq_true h]
    go_enter Try.func14, Try.ntmps14
    go_wp2_with fail
    go_ret
    exact ⟨rfl, Below.refl _ _⟩
  · have z : ¬ (255 : Int) < (s : Int) := by omega
    rw [decide_eq_false h]
    go_enter Try.func14, Try.ntmps14
    go_wp2_with fail
    go_ret
    exact ⟨rfl, Below.refl _ _⟩
theorem entF_says1 : EntF 14 := entF_of Try.func14 (by kernel_rfl) rfl
theorem says21_any (B s t : Nat) (w : World) (hB : w.cell? ⟨B, 0, none⟩ = some (.int .u16 (s : Nat))) (hs : s < 65536) (ht : t < 65536) :
    Calls Try.prog 17 #[.int .u16 (t : Nat), .pointer (some ⟨B, 0, none⟩)] w fun e w' => e = .returned (.bool (s &&& t == 0)) ∧ Below w.heap.size w w' := by
  have x1 : bits .and .u16 (s : Int) (t : Int) = ((s &&& t : Nat) : Int) := u16_and_nat s t hs ht
  have lB := lt_of_cell hB
  generalize s &&& t = z at x1 ⊢
  by_cases hz : z = 0
  · subst hz
    go_enter Try.func17, Try.ntmps17
    go_wp2_with fail
    go_ret
    exact ⟨rfl, Below.refl _ _⟩
  · have z2 : ((z : Int) == 0) = false := by simp only [beq_eq_false_iff_ne, ne_eq, Int.natCast_eq_zero]; exact hz
    rw [show (z == 0) = false by simpa using hz]
    go_enter Try.func17, Try.ntmps17
    go_wp2_with fail
    go_ret
    exact ⟨rfl, Below.refl _ _⟩
theorem entF_says21 : EntF 17 := entF_of Try.func17 (by kernel_rfl) rfl

set_option maxHeartbeats 1000000 in
theorem says2_any (B : Nat) (a : Option Addr) (n c s : Nat) (f : Nat → Nat) (w : World) (hn : n ≤ 100) (h : RS w a n f) (hf : ∀ j, j < n → f j < 65536) (hB : w.cell? ⟨B, 0, none⟩ = some (.slice a n c)) (hs : s < 65536) :
    Calls Try.prog 16 #[.int .u16 (s : Nat), .pointer (some ⟨B, 0, none⟩)] w fun e w' => e = .returned (.bool (mtB f s n)) ∧ Below w.heap.size w w' := by
  have HB0 : Hid (Below w.heap.size w (w.alloc (.cells #[.int .u16 (s : Nat)] 23))) := gbox _ _
  have X0 : Hid ((w.alloc (.cells #[.int .u16 (s : Nat)] 23)).cell? ⟨w.heap.size, 0, none⟩ = some (.int .u16 (s : Nat))) := (cells_new w #[.int .u16 (s : Nat)] 23).cell 0 _ rfl
  have CC := containsUP_any 17 ⟨w.heap.size, 0, none⟩ a n c f (fun j => s &&& f j == 0) (w.alloc (.cells #[.int .u16 (s : Nat)] 23)) (by omega) (h.step HB0.out) entF_says21 (fun j W hj hW => says21_any w.heap.size s (f j) W ((hW.cell (p := ⟨w.heap.size, 0, none⟩) (lt_of_cell X0.out)).trans X0.out) hs (hf j hj))
  have hmf : ∀ (fn : Fn) (first cap : Array Value) (w : World), (Instr.makeFunc fn first cap).run Try.prog w = .ok (.func fn first cap) w := fun _ _ _ _ => rfl
  have lB := lt_of_cell hB
  have HM : Hid ((!anyU (fun j => s &&& f j == 0) n) = mtB f s n) := mtB_any f s n
  clear h hf hs hn X0
  obtain ⟨x, hx⟩ : ∃ x, anyU (fun j => s &&& f j == 0) n = x := ⟨_, rfl⟩
  rw [hx] at CC HM
  clear hx
  cases x
  all_goals
    go_enter Try.func16, Try.ntmps16
    go_wp2_with fail
    refine CC.mono ?_
    rintro e w1 ⟨rfl, hb⟩
    have B1 : Hid (Below w.heap.size w w1) := HB0.out.trans (hb.mono HB0.out.size)
    clear hb CC
    go_wp2_with fail
    go_ret
    exact ⟨by rw [← HM.out]; rfl, B1.out⟩
theorem entF_says2 : EntF 16 := entF_of Try.func16 (by kernel_rfl) rfl

theorem says3_any (B : Nat) (a : Option Addr) (n c p : Nat) (t : Nat → Gt) (w : World) (h : RowG w a n t) (hc : chG t n = 0) (hB : w.cell? ⟨B, 0, none⟩ = some (.slice a n c)) (hp : p < 65536) :
    Calls Try.prog 21 #[.int .u16 p, .pointer (some ⟨B, 0, none⟩)] w fun e w' => e = .returned (.bool (faT t n p)) ∧ Below w.heap.size w w' := by
  have C : Hid (Calls Try.prog 20 #[.slice a n c, .int .u16 p] w fun e w' => e = .returned (.bool (faT t n p)) ∧ Below w.heap.size w w') := rfails_any a n c p t w h hc hp
  have lB := lt_of_cell hB
  clear h hc hp
  go_enter Try.func21, Try.ntmps21
  go_wp2_with fail
  refine C.out.mono ?_
  rintro e w1 ⟨rfl, hb⟩
  go_wp2_with fail
  go_ret
  exact ⟨rfl, hb⟩
theorem entF_says3 : EntF 21 := entF_of Try.func21 (by kernel_rfl) rfl

end Go.Proofs.Ytacophekhknbpaa
