/-
  Contracts of frame.putWord, Pack and the document's own FrameText: the bytes of a frame.
-/
import Derived.Test.YtiaolelkabbnmaaFrmWord
namespace Go.Proofs.Ytiaolelkabbnmaa
open Go.RowKit
set_option linter.unusedVariables false

/-- the 32 bits of a number -/
def u32 (x : Int) : Nat := (x % 4294967296).toNat
/-- its four bytes, the highest first -/
def four (x : Int) : List UInt8 := [UInt8.ofNat (u32 x / 16777216), UInt8.ofNat (u32 x / 65536), UInt8.ofNat (u32 x / 256), UInt8.ofNat (u32 x)]
theorem u32_lt (x : Int) : u32 x < 4294967296 := by unfold u32; omega
theorem u32_cast (x : Int) : ((u32 x : Nat) : Int) = x % 4294967296 := by unfold u32; omega
theorem four_cells (x : Int) : Lib.byteCells (four x) = [.int .u8 (x % 4294967296 / 16777216), .int .u8 (x % 4294967296 / 65536 % 256), .int .u8 (x % 4294967296 / 256 % 256), .int .u8 (x % 4294967296 % 256)] := by
  have h := u32_lt x
  rw [← u32_cast]
  unfold four Lib.byteCells
  simp only [List.map_cons, List.map_nil, UInt8.toNat_ofNat']
  generalize u32 x = u at h
  simp only [List.cons.injEq, Value.int.injEq, true_and, and_true]
  omega
/-- the bytes of a frame's head and of its first k words -/
def frL (K L S : Int) (n : Nat) (l : Nat → Int) : Nat → List UInt8
  | 0 => [UInt8.ofNat (16 * K + L).toNat, UInt8.ofNat S.toNat, UInt8.ofNat n]
  | k + 1 => frL K L S n l k ++ four (l k)
theorem frL_length (K L S : Int) (n : Nat) (l : Nat → Int) (k : Nat) : (frL K L S n l k).length = 3 + 4 * k := by
  induction k with
  | zero => rfl
  | succ k ih => unfold frL; rw [List.length_append, ih]; simp [four]; omega
/-- the text of a frame, without its sum -/
def frT (K L S : Int) (n : Nat) (l : Nat → Int) : ByteArray := ⟨(frL K L S n l n).toArray⟩
theorem frT_size (K L S : Int) (n : Nat) (l : Nat → Int) : (frT K L S n l).size = 3 + 4 * n := by
  show (frL K L S n l n).toArray.size = _
  rw [List.size_toArray, frL_length]
theorem info8 : ∃ i, Try.prog.info? 5 = some i ∧ i.zero = some (.int .u8 0) ∧ i.size = 1 ∧ i.bytes = 1 := by
  have h : (Try.prog.info? 5).map (fun i => (i.zero, i.size, i.bytes)) = some (some (.int .u8 0), 1, 1) := by kernel_rfl
  cases hi : Try.prog.info? 5 with
  | none => rw [hi] at h; simp at h
  | some i => rw [hi] at h; simp at h; exact ⟨i, rfl, h.1, h.2.1, h.2.2⟩
/-- a row of bytes that is owned, read as a text -/
theorem owned_text {w : World} {N n : Nat} {v : Value} {bs : List UInt8} (h : w.ownsRow N 5 1 v n (Lib.byteCells bs)) (hn : 0 < n) : (convert 44 9 v).run Try.prog w = .ok (.string ⟨bs.toArray⟩) w := by
  have hl : bs.length = n := by
    have := h.1
    rw [Lib.byteCells_length] at this
    omega
  obtain ⟨g, cap, rfl, h1, h2⟩ := h.form hn
  subst hl
  refine run_convert_bytes_back _ _ _ 5 ⟨g, 0, none⟩ cap bs Try.underlying44 Try.underlying5 Try.underlying9 fun j hj => ?_
  exact h.cells (g := g) rfl j _ (by simp [Lib.byteCells, hj])

set_option maxHeartbeats 1000000 in
set_option maxRecDepth 100000 in
theorem putWord_any (N : Nat) (v : Value) (n : Nat) (bs : List UInt8) (x : Int) (w : World) (hN : N ≤ w.heap.size) (hn : n ≤ 1000) (h0 : 0 < n) (hown : w.ownsRow N 5 1 v n (Lib.byteCells bs)) :
    Calls Try.prog 37 #[v, .int .i32 x] w fun e w' => ∃ v', e = .returned v' ∧ w'.ownsRow N 5 1 v' (n + 4) (Lib.byteCells (bs ++ four x)) ∧ Below N w w' := by
  obtain ⟨g, cap, rfl, g1, g2⟩ := hown.form h0
  have HO : Hid (w.ownsRow N 5 1 (.slice (some ⟨g, 0, none⟩) n cap) n (Lib.byteCells bs)) := hown
  clear hown
  obtain ⟨i, i1, i2, i3, i4⟩ := info8
  have F : Hid (Lib.byteCells (four x) = [.int .u8 (x % 4294967296 / 16777216), .int .u8 (x % 4294967296 / 65536 % 256), .int .u8 (x % 4294967296 / 256 % 256), .int .u8 (x % 4294967296 % 256)]) := four_cells x
  have hu : IntKind.u32.wrap x = x % 4294967296 := by rw [IntKind.wrap_u32]
  have u0 : 0 ≤ x % 4294967296 := Int.emod_nonneg _ (by decide)
  have u1 : x % 4294967296 < 4294967296 := Int.emod_lt_of_pos _ (by decide)
  generalize x % 4294967296 = u at hu u0 u1 F
  go_enter Try.func37, Try.ntmps37
  go_wp2_with (at_builtin; refine wpList_append_own _ rfl _ _ 44 rfl N 5 i (.int .u8 0) 1 1 Try.underlying44 i1 i2 i3 i4 rfl (by omega) _ _ _ rfl (HO.out.alloc _) ⟨w.heap.size, 0, none⟩ 4 _ (Lib.byteCells (four x)) rfl ?qc1 ?qc2 ?qc3 ?qc4 ?qc5 ?qc6 ?_)
  case qc1 => rw [Lib.byteCells_length]; rfl
  case qc2 =>
    rw [F.out]
    intro j y hj
    match j, hj with
    | 0, hj => simp at hj; subst hj; rw [Addr.add_lit]; go_simp
    | 1, hj => simp at hj; subst hj; rw [Addr.add_lit]; go_simp
    | 2, hj => simp at hj; subst hj; rw [Addr.add_lit]; go_simp
    | 3, hj => simp at hj; subst hj; rw [Addr.add_lit]; go_simp
    | j + 4, hj => simp at hj
  case qc3 => exact Lib.byteCells_one _
  case qc4 => unfold maxLen; omega
  case qc5 => omega
  case qc6 => simp; omega
  intro v' w1 ho hgr _
  have hb : Below N w w1 := ((Below.refl _ w).alloc hN _).grown hgr (by simp; omega) (fun k hk => (HO.out.lt k hk).1)
  rw [← Lib.byteCells_append] at ho
  have O1 : Hid (w1.ownsRow N 5 1 v' (n + 4) (Lib.byteCells (bs ++ four x)) ∧ Below N w w1) := ⟨ho, hb⟩
  clear ho hgr hb
  go_wp2_with fail
  go_ret
  exact ⟨v', rfl, O1.out.1, O1.out.2⟩

end Go.Proofs.Ytiaolelkabbnmaa
