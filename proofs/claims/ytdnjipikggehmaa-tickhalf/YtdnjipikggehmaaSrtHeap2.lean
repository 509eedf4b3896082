/-
  The library's sort at numbers of 64 bits: sorted by a heap.
-/
import Derived.Test.YtdnjipikggehmaaSrtHeap
namespace Go.Proofs.Ytdnjipikggehmaa
open Go.RowKit

theorem build_go {hi F k : Nat} {d : Array Int} : Sort.heapBuild Sort.ltInt hi F (k + 1) d = Sort.heapBuild Sort.ltInt hi F k (Sort.siftDown Sort.ltInt hi F k d) := rfl
theorem pop_go {F k : Nat} {d : Array Int} : Sort.heapPop Sort.ltInt F (k + 1) d = Sort.heapPop Sort.ltInt F k (Sort.siftDown Sort.ltInt k F 0 (Sort.swp d F (F + k))) := rfl

set_option maxHeartbeats 1000000 in
set_option maxRecDepth 100000 in
theorem heap_any (N : Nat) (w0 : World) (blk off n c a b : Nat) (d : Array Int) (w : World) (h : Cur N w0 blk off n d w) (hab : a < b) (hb : b ≤ n) (hn : n ≤ 1048576) :
    Calls Try.prog 26 #[.slice (some ⟨blk, off, none⟩) n c, .int .i64 a, .int .i64 b] w fun e w' =>
      e = .returned (.tuple #[]) ∧ Cur N w0 blk off n (Sort.heapSort Sort.ltInt d a b) w' := by
  obtain ⟨m, hm⟩ : ∃ m, b = a + (m + 1) := ⟨b - a - 1, by omega⟩
  have eh : Sort.heapSort Sort.ltInt d a b = Sort.heapPop Sort.ltInt a (m + 1) (Sort.heapBuild Sort.ltInt (m + 1) a (m / 2 + 1) d) := by
    unfold Sort.heapSort
    rw [show b - a = m + 1 by omega, show m + 1 - 1 = m by omega]
  rw [eh]
  have zm : (b : Int) - (a : Int) = ((m + 1 : Nat) : Int) := by omega
  have HM : Hid (b = a + (m + 1)) := hm
  have hm1 : a + (m + 1) ≤ n := by omega
  clear eh hm
  go_enter Try.func26, Try.ntmps26
  go_wp2_with fail
  go_loopw [9] (fun s wr => ∃ (k : Nat) (dk : Array Int), s = .int .i64 ((k : Int) - 1) ∧ k ≤ m / 2 + 1 ∧ Cur N w0 blk off n dk wr ∧ Hid (Sort.heapBuild Sort.ltInt (m + 1) a k dk = Sort.heapBuild Sort.ltInt (m + 1) a (m / 2 + 1) d)) (fun s _ => (intOf s + 1).toNat)
  case atStart => exact ⟨m / 2 + 1, d, by congr 1; omega, by omega, h, rfl⟩
  case round =>
    obtain ⟨k, dk, rfl, hk, hC, hB⟩ := hrel
    cases k with
    | zero =>
      go_wp2_with fail
      go_loopg [10] (m + 1) (fun g s wr => ∃ (k : Nat) (dj : Array Int), s = .int .i64 ((k : Int) - 1) ∧ k ≤ g ∧ k ≤ m + 1 ∧ Cur N w0 blk off n dj wr ∧ Hid (Sort.heapPop Sort.ltInt a k dj = Sort.heapPop Sort.ltInt a (m + 1) dk))
      case atStart => exact ⟨m + 1, dk, by congr 1; omega, by omega, by omega, hC, rfl⟩
      case round =>
        obtain ⟨k, dj, rfl, hg, hk, hC2, hP⟩ := hrel
        cases k with
        | zero =>
          go_wp2_with fail
          go_end0
          refine ⟨rfl, ?_⟩
          rw [← hB.out]
          show Cur N w0 blk off n (Sort.heapPop Sort.ltInt a (m + 1) dk) _
          rw [← hP.out]
          exact hC2
        | succ k =>
          have z1 : ((k : Int) + 1 - 1) = (k : Int) := by omega
          have z2 : ((k + 1 : Nat) : Int) - 1 = (k : Int) := by omega
          obtain ⟨G, hG, hcell, hfroz⟩ := hC2.fam
          have HG : Hid (∀ t, G t = dj[t]!) := hG
          clear hG
          rcases Nat.eq_zero_or_pos k with hk0 | hk0
          · subst hk0
            go_wp2_with fail
            go_region
            go_wp2_with fail
            refine (sift_any N w0 blk off n c 0 0 a _ _ ((hC2.drewN 1).swap (i := a) (j := a + 0) (by omega) (by omega) (HG.out _) (HG.out _)) (by omega) (by omega) hn).mono ?_
            rintro r w1 ⟨rfl, hC3⟩
            go_wp2_with fail
            go_roundg 0
            case measure => omega
            case rel => exact ⟨0, _, by congr 1, by omega, by omega, hC3, by
              show _ = _
              rw [← hP.out, pop_go]⟩
          · have hk1 : ¬ k = 0 := by omega
            go_wp2_with fail
            go_region
            go_wp2_with fail
            refine (sift_any N w0 blk off n c 0 k a _ _ ((hC2.drewN 1).swap (i := a) (j := a + k) (by omega) (by omega) (HG.out _) (HG.out _)) (by omega) (by omega) hn).mono ?_
            rintro r w1 ⟨rfl, hC3⟩
            go_wp2_with fail
            go_roundg k
            case measure => omega
            case rel => exact ⟨k, _, by congr 1, by omega, by omega, hC3, by
              show _ = _
              rw [← hP.out, pop_go]⟩
    | succ k =>
      have z2 : ((k + 1 : Nat) : Int) - 1 = (k : Int) := by omega
      go_wp2_with fail
      refine (sift_any N w0 blk off n c k (m + 1) a dk _ hC (by omega) (by omega) hn).mono ?_
      rintro r w1 ⟨rfl, hC1⟩
      go_wp2_with fail
      go_roundw
      case rel => exact ⟨k, _, by congr 1, by omega, hC1, by
        show _ = _
        rw [← hB.out, build_go]⟩
      case measure => simp [intOf]

end Go.Proofs.Ytdnjipikggehmaa
