/-
  The small tree of the laws, lists of sets written out, and Across of a list.
-/
import Derived.Test.YtacophekhknbpaaGatMath
import Derived.Test.YtacophekhknbpaaSetEq
namespace Go.Proofs.Ytacophekhknbpaa
open Go.RowKit
set_option linter.unusedVariables false

def eiT (A : Option Addr) (c : Nat) : Nat → Gt
  | 0 => ⟨1, 0, none, 0, 0, fun _ => 0⟩
  | 1 => ⟨1, 1, none, 0, 0, fun _ => 0⟩
  | _ => ⟨3, 0, A, 2, c, fun j => (j : Int)⟩
theorem eiT_ok (A : Option Addr) (c : Nat) : chG (eiT A c) 3 = 0 := by
  simp [chG, chR, eiT, geE, formV, okB]
theorem eiT_cuts (A : Option Addr) (c : Nat) : leastL (faT (eiT A c) 3) = [1, 2] := by
  have h0 : leastL (faT (eiT none 0) 3) = [1, 2] := by decide +kernel
  rw [← h0]
  refine leastL_congr fun s _ => ?_
  exact (faG_same (t := eiT none 0) (u := eiT A c) (n := 3) (p := s) (eiT_ok none 0) (fun j hj => by
    rcases (show j = 0 ∨ j = 1 ∨ j = 2 by omega) with rfl | rfl | rfl <;> exact ⟨rfl, rfl, rfl, fun _ _ => rfl⟩)).2 2 (by decide)

set_option maxHeartbeats 1000000 in
theorem either_any (w : World) : Calls Try.prog 23 #[] w fun e w' => ∃ b A c, e = .returned (.slice (some ⟨b, 0, none⟩) 3 3) ∧ RowG w' (some ⟨b, 0, none⟩) 3 (eiT A c) ∧ Below w.heap.size w w' := by
  go_enter Try.func23, Try.ntmps23
  go_wp2_with fail
  go_ret
  refine ⟨w.heap.size + 1, some ⟨w.heap.size, 0, none⟩, 2, rfl, ⟨fun _ => ⟨_, 0, rfl, ?_, fun j hj => ?_⟩, fun j hj => ?_, fun j hj => ?_⟩, (gbox _ _).alloc (by simp) _⟩
  · simp
  · rcases (show j = 0 ∨ j = 1 ∨ j = 2 by omega) with rfl | rfl | rfl
    · exact ⟨by go_simp; rfl, by go_simp; rfl, by go_simp; exact ⟨rfl, rfl, rfl⟩⟩
    · exact ⟨by go_simp; rfl, by go_simp; rfl, by go_simp; exact ⟨rfl, rfl, rfl⟩⟩
    · exact ⟨by go_simp; rfl, by go_simp; rfl, by go_simp; exact ⟨rfl, rfl, rfl⟩⟩
  · rcases (show j = 0 ∨ j = 1 ∨ j = 2 by omega) with rfl | rfl | rfl
    · exact fun hn => absurd hn (by show ¬ 0 < 0; omega)
    · exact fun hn => absurd hn (by show ¬ 0 < 0; omega)
    · refine fun _ => ⟨w.heap.size, 0, rfl, by simp; omega, fun i hi => ?_⟩
      rcases (show i = 0 ∨ i = 1 by have : i < 2 := hi; omega) with rfl | rfl
      · go_simp
        rfl
      · go_simp
        rfl
  · rcases (show j = 0 ∨ j = 1 ∨ j = 2 by omega) with rfl | rfl | rfl
    · exact ⟨by simp [eiT], by simp [eiT], by simp [eiT]⟩
    · exact ⟨by simp [eiT], by simp [eiT], by simp [eiT]⟩
    · exact ⟨by simp [eiT], by simp [eiT], by simp [eiT]⟩

theorem rs_lit {W : World} {b : Nat} {l : List Nat} (h : Cells W b (numsU l)) : RS W (some ⟨b, 0, none⟩) l.length (fun j => l.getD j 0) := fun _ => by
  refine ⟨b, 0, rfl, h.lt, fun j hj => ?_⟩
  rw [Nat.zero_add]
  refine h.cell j _ ?_
  unfold numsU
  have e : l.getD j 0 = l[j] := by
    rw [List.getD_eq_getElem?_getD, List.getElem?_eq_getElem hj]
    rfl
  rw [List.getElem?_map, List.getElem?_eq_getElem hj]
  show some (Value.int .u16 ((l[j] : Nat) : Int)) = some (Value.int .u16 ((l.getD j 0 : Nat) : Int))
  rw [e]
theorem big_list {l : List Nat} (h : ∀ x, x ∈ l → x < 256) : bigB (fun j => l.getD j 0) l.length = false := by
  have : ∀ n, n ≤ l.length → bigB (fun j => l.getD j 0) n = false := fun n => by
    induction n with
    | zero => intro _; rfl
    | succ n ih =>
      intro hn
      refine bigB_no (ih (by omega)) ?_
      have hm : l.getD n 0 ∈ l := by
        rw [List.getD_eq_getElem?_getD, List.getElem?_eq_getElem (show n < l.length by omega)]
        exact List.getElem_mem (show n < l.length by omega)
      have := h _ hm
      show ¬ 255 < l.getD n 0
      omega
  exact this _ (Nat.le_refl _)
theorem getD_mem {l : List Nat} {j : Nat} (hj : j < l.length) : l.getD j 0 ∈ l := by
  rw [List.getD_eq_getElem?_getD, List.getElem?_eq_getElem hj]
  exact List.getElem_mem hj
theorem across_list (l : List Nat) (hl : l.length ≤ 100) (h : ∀ x, x ∈ l → x < 256) (a : Option Addr) (c : Nat) (w : World) (hr : RS w a l.length (fun j => l.getD j 0)) :
    Calls Try.prog 12 #[.slice a l.length c] w fun e w' => ∃ v, e = .returned (.tuple #[v, .int .i64 0]) ∧ RowU w (leastL (meets l)) v w' := by
  refine (across_small a l.length c _ w (by omega) hr (fun j hj => by have := h _ (getD_mem hj); omega) false (big_list h)).mono ?_
  rintro e w' (⟨q, _⟩ | ⟨_, v, rfl, hv⟩)
  · cases q
  · refine ⟨v, rfl, ?_⟩
    rw [leastL_congr (G := fun s => mtB (fun j => l.getD j 0) s l.length) fun s _ => (mtB_list l s).symm]
    exact hv
theorem least_lt {F : Nat → Bool} {x : Nat} (h : x ∈ leastL F) : x < 256 := (mem_leastL.1 h).1

end Go.Proofs.Ytacophekhknbpaa
