/-
  Contracts of crc.written, Put, strings.Clone, Get: a sum as two bytes; memory that was there stays as it was.
-/
import Derived.Test.YtiaolelkabbnmaaCrc
import Derived.Laws.IdiomStrings
import Derived.Deep.RegionHeld3
namespace Go.Proofs.Ytiaolelkabbnmaa
open Go.RowKit
set_option linter.unusedVariables false

/-- a sum as two bytes -/
def two (c : Nat) : ByteArray := ⟨#[UInt8.ofNat (c / 256), UInt8.ofNat c]⟩

/-- two bytes in a new block, read as a text -/
theorem two_back (c : Nat) (hc : c < 65536) (w : World) : (convert 44 9 (.slice (some ⟨w.heap.size, 0, none⟩) 2 2)).run Try.prog (w.alloc (.cells #[.int .u8 ((c : Int) / 256), .int .u8 ((c : Int) % 256)] 5)) = .ok (.string (two c)) (w.alloc (.cells #[.int .u8 ((c : Int) / 256), .int .u8 ((c : Int) % 256)] 5)) := by
  refine run_convert_bytes_back _ _ _ 5 ⟨w.heap.size, 0, none⟩ 2 [UInt8.ofNat (c / 256), UInt8.ofNat c] Try.underlying44 Try.underlying5 Try.underlying9 ?_
  intro j hj
  match j, hj with
  | 0, _ => go_simp; omega
  | 1, _ => go_simp

set_option maxHeartbeats 400000 in
theorem written_any (c : Nat) (hc : c < 65536) (w : World) :
    Calls Try.prog 40 #[.int .u16 c] w fun e w' => e = .returned (.string (two c)) ∧ Below w.heap.size w w' := by
  have hcv := two_back c hc w
  go_enter Try.func40, Try.ntmps40
  go_wp2
  go_ret
  exact ⟨rfl, (Below.refl _ w).alloc (Nat.le_refl _) _⟩

set_option maxHeartbeats 400000 in
set_option maxRecDepth 100000 in
theorem put_large (s : ByteArray) (w : World) (hm : s.size ≤ 140737488351232) (h : 4093 < s.size) :
    Calls Try.prog 38 #[.string s] w fun e w' => e = .returned (.tuple #[.string ⟨#[]⟩, .int .i64 2]) ∧ w' = w := by
  go_enter Try.func38, Try.ntmps38
  go_wp2
  go_ret2
  exact ⟨rfl, rfl⟩

theorem two_size (c : Nat) : (two c).size = 2 := rfl

set_option maxHeartbeats 400000 in
set_option maxRecDepth 100000 in
theorem put_ok (s : ByteArray) (w : World) (h : s.size ≤ 4093) :
    Calls Try.prog 38 #[.string s] w fun e w' => e = .returned (.tuple #[.string (s ++ two (crcN s)), .int .i64 0]) ∧ Below w.heap.size w w' := by
  have HS : Hid (crcN s < 65536 ∧ ∀ W, Calls Try.prog 41 #[.string s] W fun e w' => e = .returned (.int .u16 (crcN s : Nat)) ∧ w' = W) := ⟨crcN_lt s, fun W => sum_any s W (by omega)⟩
  generalize crcN s = c at HS
  have HW : Hid (∀ W, Calls Try.prog 40 #[.int .u16 c] W fun e w' => e = .returned (.string (two c)) ∧ Below W.heap.size W w') := fun W => written_any c HS.out.1 W
  have h2 := two_size c
  generalize two c = t at HW h2 ⊢
  go_enter Try.func38, Try.ntmps38
  go_wp2_with fail
  refine (HS.out.2 _).mono ?_
  rintro e w1 ⟨rfl, rfl⟩
  go_wp2_with fail
  refine (HW.out _).mono ?_
  rintro e w2 ⟨rfl, hb⟩
  have HB : Hid (_) := hb
  clear hb
  go_wp2_with fail
  go_ret2
  exact ⟨rfl, HB.out⟩

end Go.Proofs.Ytiaolelkabbnmaa
