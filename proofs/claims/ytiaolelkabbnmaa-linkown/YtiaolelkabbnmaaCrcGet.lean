/-
  Contract of crc.Get: a text is right if its last two bytes are the sum of those ahead.
-/
import Derived.Test.YtiaolelkabbnmaaStrClone
namespace Go.Proofs.Ytiaolelkabbnmaa
open Go.RowKit
set_option linter.unusedVariables false

set_option maxHeartbeats 400000 in
set_option maxRecDepth 100000 in
theorem get_large (s : ByteArray) (w : World) (hm : s.size ≤ 140737488351232) (h : 4095 < s.size) :
    Calls Try.prog 35 #[.string s] w fun e w' => e = .returned (.tuple #[.string ⟨#[]⟩, .int .i64 2]) ∧ w' = w := by
  go_enter Try.func35, Try.ntmps35
  go_wp2
  go_ret2
  exact ⟨rfl, rfl⟩

set_option maxHeartbeats 400000 in
set_option maxRecDepth 100000 in
theorem get_short (s : ByteArray) (w : World) (h : s.size < 2) :
    Calls Try.prog 35 #[.string s] w fun e w' => e = .returned (.tuple #[.string ⟨#[]⟩, .int .i64 3]) ∧ w' = w := by
  go_enter Try.func35, Try.ntmps35
  go_wp2
  go_ret2
  exact ⟨rfl, rfl⟩

theorem extract_size (s : ByteArray) (a b : Nat) (h : b ≤ s.size) : (s.extract a b).size = b - a := by
  simp [ByteArray.size_extract]; omega

set_option maxHeartbeats 1000000 in
set_option maxRecDepth 100000 in
theorem get_any (s : ByteArray) (n : Nat) (w : World) (hs : s.size = n + 2) (h : s.size ≤ 4095) (E : Value)
    (hE : ((s.extract n (n + 2)).toList == (two (crcN (s.extract 0 n))).toList) = true ∧ E = .tuple #[.string (s.extract 0 n), .int .i64 0] ∨ ((s.extract n (n + 2)).toList == (two (crcN (s.extract 0 n))).toList) = false ∧ E = .tuple #[.string ⟨#[]⟩, .int .i64 5]) :
    Calls Try.prog 35 #[.string s] w fun e w' => e = .returned E ∧ Below w.heap.size w w' := by
  have hx : (s.extract 0 n).size = n := by rw [extract_size _ _ _ (by omega)]; rfl
  have HS : Hid (crcN (s.extract 0 n) < 65536 ∧ ∀ W, Calls Try.prog 41 #[.string (s.extract 0 n)] W fun e w' => e = .returned (.int .u16 (crcN (s.extract 0 n) : Nat)) ∧ w' = W) := ⟨crcN_lt _, fun W => sum_any _ W (by omega)⟩
  generalize crcN (s.extract 0 n) = c at HS hE
  have HW : Hid (∀ W, Calls Try.prog 40 #[.int .u16 c] W fun e w' => e = .returned (.string (two c)) ∧ Below W.heap.size W w') := fun W => written_any c HS.out.1 W
  generalize two c = t at HW hE
  have h1 : ¬ (4095 : Int) < (s.size : Int) := by omega
  have h2 : ¬ (s.size : Int) < 2 := by omega
  have h3 : (s.size : Int) - 2 = (n : Int) := by omega
  have h4 : ((s.size : Nat) : Int) = (n : Int) + 2 := by omega
  have q1 : ∀ W : World, (Instr.slice 9 (.string s) (some (.int .i64 (n : Int))) none none).run Try.prog W = .ok (.string (s.extract n (n + 2))) W := fun W => by
    rw [run_slice_string_from_if W 9 s .i64 (n : Int) Try.underlying9]
    rw [if_pos (by omega), hs]
    rfl
  have q2 : ∀ W : World, (Instr.slice 9 (.string s) none (some (.int .i64 (n : Int))) none).run Try.prog W = .ok (.string (s.extract 0 n)) W := fun W => by
    rw [run_slice_string_to_if W 9 s .i64 (n : Int) Try.underlying9]
    rw [if_pos (by omega)]
    rfl
  go_enter Try.func35, Try.ntmps35
  go_wp2_with fail
  go_region_held3 (fun _ => True) (trivial) (first | (go_at_call 41; refine (HS.out.2 _).mono ?_; rintro e w' ⟨rfl, rfl⟩) | (go_at_call 40; refine (HW.out _).mono ?_; rintro e w1 ⟨rfl, hb⟩; have HB : Hid (Below w.heap.size w w1) := (Below.refl w.heap.size w).drew.trans hb; clear hb))
  rcases hE with ⟨hq, rfl⟩ | ⟨hq, rfl⟩
  · have hq' : (!((s.extract n (n + 2)).toList == t.toList)) = false := by rw [hq]; rfl
    clear hq
    rw [hq']
    go_wp2_with fail
    refine (sclone_any (s.extract 0 n) _ (by omega)).mono ?_
    rintro e w2 ⟨rfl, hb2⟩
    have HB2 : Hid (Below w.heap.size w w2) := HB.out.trans (hb2.mono HB.out.size)
    clear hb2
    go_wp2_with fail
    go_ret2
    exact ⟨rfl, HB2.out⟩
  · have hq' : (!((s.extract n (n + 2)).toList == t.toList)) = true := by rw [hq]; rfl
    clear hq
    rw [hq']
    go_wp2_with fail
    go_ret2
    exact ⟨rfl, HB.out⟩

end Go.Proofs.Ytiaolelkabbnmaa
