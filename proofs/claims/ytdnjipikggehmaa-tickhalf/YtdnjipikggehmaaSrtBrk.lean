/-
  The library's sort at numbers of 64 bits: how many bits a number has; a range shaken up.
-/
import Derived.Test.YtdnjipikggehmaaSrtPiv
namespace Go.Proofs.Ytdnjipikggehmaa
open Go.RowKit
set_option linter.unusedVariables false

/-- the library's table of how many bits a byte has, asked at every byte -/
def tabOK (A : ByteArray) : Bool := (List.range 256).all fun x => decide ((A.get! x).toNat ≤ 8) && (decide (x = 0) || decide (2 ^ (A.get! x).toNat ≤ 2 * x))
theorem tab_at (A : ByteArray) (hA : tabOK A = true) (x : Nat) (hx : x < 256) (h : x < A.size) : A[x].toNat ≤ 8 ∧ (0 < x → 2 ^ A[x].toNat ≤ 2 * x) := by
  have e : A[x] = A.get! x := by
    cases A with
    | mk d =>
      show d[x] = d[x]!
      rw [getElem!_pos d x h]
  have t := List.all_eq_true.1 hA x (List.mem_range.2 hx)
  simp only [Bool.and_eq_true, decide_eq_true_eq, Bool.or_eq_true] at t
  rw [e]
  exact ⟨t.1, fun h0 => by rcases t.2 with q | q; (exact absurd q (by omega)); exact q⟩
theorem wrap_nat {k : Nat} (h : k ≤ 100) : wrap64 (k : Int) = (k : Int) := IntWalk.wrap64_in _ (by omega)
theorem pow_nat (k : Nat) : ((2 ^ k : Nat) : Int) = 2 ^ k := by simp
theorem len_ret0 {k : Nat} {X : Int} {w : World} (t : k ≤ 8 ∧ (0 < X.toNat → 2 ^ k ≤ 2 * X.toNat)) (hX : 0 ≤ X) :
    ∃ L : Nat, Ending.returned (.int .i64 (wrap64 (wrap64 (k : Int)))) = .returned (.int .i64 L) ∧ L ≤ 32 ∧ (0 < X → 2 ^ L ≤ 2 * X) ∧ w = w :=
  ⟨k, by rw [wrap_nat (by omega), wrap_nat (by omega)], by omega, fun h => by have := t.2 (by omega); rw [← pow_nat]; omega, rfl⟩
theorem len_ret8 {k : Nat} {X : Int} {w : World} (t : k ≤ 8 ∧ (0 < (X / 256).toNat → 2 ^ k ≤ 2 * (X / 256).toNat)) (hX : 256 ≤ X) :
    ∃ L : Nat, Ending.returned (.int .i64 (wrap64 (8 + wrap64 (k : Int)))) = .returned (.int .i64 L) ∧ L ≤ 32 ∧ (0 < X → 2 ^ L ≤ 2 * X) ∧ w = w :=
  ⟨8 + k, by rw [wrap_nat (by omega), IntWalk.wrap64_in _ (by omega)]; rfl, by omega, fun h => by have := t.2 (by omega); rw [← pow_nat, Nat.pow_add]; omega, rfl⟩
theorem len_ret16 {k : Nat} {X : Int} {w : World} (t : k ≤ 8 ∧ (0 < (X / 65536).toNat → 2 ^ k ≤ 2 * (X / 65536).toNat)) (hX : 65536 ≤ X) :
    ∃ L : Nat, Ending.returned (.int .i64 (wrap64 (16 + wrap64 (k : Int)))) = .returned (.int .i64 L) ∧ L ≤ 32 ∧ (0 < X → 2 ^ L ≤ 2 * X) ∧ w = w :=
  ⟨16 + k, by rw [wrap_nat (by omega), IntWalk.wrap64_in _ (by omega)]; rfl, by omega, fun h => by have := t.2 (by omega); rw [← pow_nat, Nat.pow_add]; omega, rfl⟩

set_option maxHeartbeats 1000000 in
set_option maxRecDepth 100000 in
theorem len64_0 (X : Int) (h1 : 0 ≤ X) (h2 : X < 256) (w : World) :
    Calls Try.prog 35 #[.int .u64 X] w fun e w' => ∃ L : Nat, e = .returned (.int .i64 L) ∧ L ≤ 32 ∧ (0 < X → 2 ^ L ≤ 2 * X) ∧ w' = w := by
  have z1 : ¬ (4294967296 : Int) ≤ X := by omega
  have z2 : ¬ (65536 : Int) ≤ X := by omega
  have z3 : ¬ (256 : Int) ≤ X := by omega
  go_enter Try.func35, Try.ntmps35
  go_wp2_with fail
  go_ret
  exact len_ret0 (tab_at _ (by kernel_rfl) (X).toNat (by omega) _) (by omega)

set_option maxHeartbeats 1000000 in
set_option maxRecDepth 100000 in
theorem len64_8 (X : Int) (h1 : 256 ≤ X) (h2 : X < 65536) (w : World) :
    Calls Try.prog 35 #[.int .u64 X] w fun e w' => ∃ L : Nat, e = .returned (.int .i64 L) ∧ L ≤ 32 ∧ (0 < X → 2 ^ L ≤ 2 * X) ∧ w' = w := by
  have z1 : ¬ (4294967296 : Int) ≤ X := by omega
  have z2 : ¬ (65536 : Int) ≤ X := by omega
  have a1 : 0 ≤ X / 256 := by omega
  have a2 : X / 256 < 256 := by omega
  go_enter Try.func35, Try.ntmps35
  go_wp2_with fail
  go_ret
  exact len_ret8 (tab_at _ (by kernel_rfl) (X / 256).toNat (by omega) _) (by omega)

set_option maxHeartbeats 1000000 in
set_option maxRecDepth 100000 in
theorem len64_16 (X : Int) (h1 : 65536 ≤ X) (h2 : X ≤ 1048576) (w : World) :
    Calls Try.prog 35 #[.int .u64 X] w fun e w' => ∃ L : Nat, e = .returned (.int .i64 L) ∧ L ≤ 32 ∧ (0 < X → 2 ^ L ≤ 2 * X) ∧ w' = w := by
  have z1 : ¬ (4294967296 : Int) ≤ X := by omega
  have a1 : 0 ≤ X / 65536 := by omega
  have a2 : X / 65536 < 256 := by omega
  go_enter Try.func35, Try.ntmps35
  go_wp2_with fail
  go_ret
  exact len_ret16 (tab_at _ (by kernel_rfl) (X / 65536).toNat (by omega) _) (by omega)

set_option maxHeartbeats 1000000 in
theorem len_any (X : Int) (h1 : 0 ≤ X) (h2 : X ≤ 1048576) (w : World) :
    Calls Try.prog 23 #[.int .u64 X] w fun e w' => ∃ L : Nat, e = .returned (.int .i64 L) ∧ L ≤ 32 ∧ (0 < X → 2 ^ L ≤ 2 * X) ∧ w' = w := by
  have c : Calls Try.prog 35 #[.int .u64 X] w fun e w' => ∃ L : Nat, e = .returned (.int .i64 L) ∧ L ≤ 32 ∧ (0 < X → 2 ^ L ≤ 2 * X) ∧ w' = w := by
    rcases Int.lt_or_le X 256 with q | q
    · exact len64_0 X h1 q w
    · rcases Int.lt_or_le X 65536 with q2 | q2
      · exact len64_8 X q q2 w
      · exact len64_16 X q2 h2 w
  go_enter Try.func23, Try.ntmps23
  go_wp2_with fail
  refine c.mono ?_
  rintro e w1 ⟨L, rfl, l1, l2, rfl⟩
  have HL : Hid (0 < X → 2 ^ L ≤ 2 * X) := l2
  clear l2 c
  go_wp2_with fail
  go_ret
  exact ⟨L, rfl, l1, HL.out, rfl⟩

theorem pow_le32 {k : Nat} (h : k ≤ 32) : (2 : Int) ^ k ≤ 4294967296 := by
  have h1 : (2 : Nat) ^ k ≤ 2 ^ 32 := Nat.pow_le_pow_right (by decide) h
  have h2 : ((2 ^ k : Nat) : Int) ≤ ((2 ^ 32 : Nat) : Int) := Int.ofNat_le.2 h1
  simpa using h2
theorem pow_pos1 (k : Nat) : (1 : Int) ≤ 2 ^ k := Int.pow_pos (by decide)

set_option maxHeartbeats 1000000 in
theorem power_any (X : Int) (h1 : 0 ≤ X) (h2 : X ≤ 1048576) (w : World) :
    Calls Try.prog 37 #[.int .i64 X] w fun e w' => ∃ L : Nat, e = .returned (.int .u64 (2 ^ L)) ∧ L ≤ 32 ∧ (0 < X → 2 ^ L ≤ 2 * X) ∧ w' = w := by
  go_enter Try.func37, Try.ntmps37
  go_wp2_with fail
  refine (len_any X h1 h2 _).mono ?_
  rintro e w1 ⟨L, rfl, l1, l2, rfl⟩
  have HL : Hid (0 < X → 2 ^ L ≤ 2 * X) := l2
  have p1 := pow_le32 l1
  have p2 := pow_pos1 L
  clear l2
  go_wp2_with fail
  go_ret
  exact ⟨L, rfl, l1, HL.out, rfl⟩

end Go.Proofs.Ytdnjipikggehmaa
