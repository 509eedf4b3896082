/-
  Plain mathematics: a range that was parted, its parts sorted one behind the other, is sorted.
-/
import Derived.Test.YtdnjipikggehmaaSrtPart
namespace Go.Proofs.Ytdnjipikggehmaa
open Go.Sort
set_option linter.unusedVariables false

theorem lt_no {x y : Int} : ltInt x y = false ↔ y ≤ x := by
  constructor
  · intro h; have := of_decide_eq_false h; omega
  · intro h; exact lt_false h
theorem below_no {a b : Nat} {d : Array Int} (h : Sort.Below ltInt a b d) (ha : 0 < a) (t : Nat) (h1 : a ≤ t) (h2 : t < b) : d[a - 1]! ≤ d[t]! := by
  rcases h with h | h
  · omega
  · exact lt_no.1 (h t h1 h2)
theorem eq_round {d3 d4 : Array Int} {a b m : Nat} {p : Int} (ha : 0 < a) (hb : b ≤ d3.size) (hB : Sort.Below ltInt a b d3) (hp : p ≤ d3[a - 1]!) (h1 : a < m) (h2 : m ≤ b) (hP : PermIn a b d3 d4)
    (hle : ∀ t, a ≤ t → t < m → d4[t]! ≤ p) (hgt : ∀ t, m ≤ t → t < b → p < d4[t]!) :
    Sort.Below ltInt m b d4 ∧ ∀ R, PermIn m b d4 R → SortedIn ltInt m b R → PermIn a b d3 R ∧ SortedIn ltInt a b R := by
  have hb4 : b ≤ d4.size := by rw [hP.1]; exact hb
  have hge : ∀ t, a ≤ t → t < b → p ≤ d4[t]! := permIn_all d3 d4 a b (fun x => p ≤ x) hb hP (fun t k1 k2 => by have := below_no hB ha t k1 k2; omega)
  refine ⟨Or.inr fun t k1 k2 => lt_no.2 ?_, fun R hR hs => ⟨permIn_trans _ _ _ _ _ hP (permIn_mono _ _ m b a b (by omega) (by omega) hb4 hR), fun i j k1 k2 k3 => ?_⟩⟩
  · have e1 := hle (m - 1) (by omega) (by omega)
    have e2 := hgt t k1 k2
    omega
  · have hgR : ∀ t, m ≤ t → t < b → p < R[t]! := permIn_all d4 R m b (fun x => p < x) hb4 hR hgt
    by_cases q1 : m ≤ i
    · exact hs i j q1 k2 k3
    · refine lt_no.2 ?_
      have f1 := hR.2.1 i (Or.inl (by omega))
      have f2 := hle i k1 (by omega)
      by_cases q2 : m ≤ j
      · have := hgR j q2 k3
        rw [f1]; omega
      · have f3 := hR.2.1 j (Or.inl (by omega))
        have f4 := hge j (by omega) k3
        rw [f1, f3]; omega
/-- R is sorted where both its parts are, and its middle one parts them -/
theorem glue {R : Array Int} {a b m : Nat} {v : Int} (hL : SortedIn ltInt a m R) (hR : SortedIn ltInt (m + 1) b R) (hm : R[m]! = v) (hlo : ∀ t, a ≤ t → t < m → R[t]! < v) (hhi : ∀ t, m + 1 ≤ t → t < b → v ≤ R[t]!) : SortedIn ltInt a b R := by
  intro i j k1 k2 k3
  refine lt_no.2 ?_
  rcases Nat.lt_trichotomy j m with q | q | q
  · exact lt_no.1 (hL i j k1 k2 q)
  · subst q; have := hlo i k1 k2; omega
  · rcases Nat.lt_trichotomy i m with q2 | q2 | q2
    · have e1 := hlo i k1 q2
      have e2 := hhi j (by omega) k3
      omega
    · subst q2; have := hhi j (by omega) k3; omega
    · exact lt_no.1 (hR i j (by omega) k2 k3)
theorem part_round {d3 d4 : Array Int} {a b m : Nat} (hb : b ≤ d3.size) (hB : Sort.Below ltInt a b d3) (h1 : a ≤ m) (h2 : m < b) (hP : PermIn a b d3 d4)
    (hlo : ∀ t, a ≤ t → t < m → d4[t]! < d4[m]!) (hhi : ∀ t, m < t → t < b → d4[m]! ≤ d4[t]!) :
    Sort.Below ltInt a m d4 ∧ Sort.Below ltInt (m + 1) b d4 ∧
    (∀ L, PermIn a m d4 L → SortedIn ltInt a m L → Sort.Below ltInt (m + 1) b L ∧ ∀ R, PermIn (m + 1) b L R → SortedIn ltInt (m + 1) b R → PermIn a b d3 R ∧ SortedIn ltInt a b R) ∧
    (∀ L, PermIn (m + 1) b d4 L → SortedIn ltInt (m + 1) b L → Sort.Below ltInt a m L ∧ ∀ R, PermIn a m L R → SortedIn ltInt a m R → PermIn a b d3 R ∧ SortedIn ltInt a b R) := by
  have hb4 : b ≤ d4.size := by rw [hP.1]; exact hb
  have B1 : Sort.Below ltInt a m d4 := (hB.perm hb hP).mono (by omega)
  have B2 : Sort.Below ltInt (m + 1) b d4 := Or.inr fun t k1 k2 => by rw [Nat.add_sub_cancel]; exact lt_no.2 (hhi t (by omega) k2)
  refine ⟨B1, B2, fun L hL sL => ?_, fun L hL sL => ?_⟩
  · have bL : b ≤ L.size := by rw [hL.1]; exact hb4
    have eL : ∀ t, m ≤ t → L[t]! = d4[t]! := fun t k => hL.2.1 t (Or.inr k)
    have hloL : ∀ t, a ≤ t → t < m → L[t]! < d4[m]! := permIn_all d4 L a m (fun x => x < d4[m]!) (by omega) hL hlo
    refine ⟨Or.inr fun t k1 k2 => by rw [Nat.add_sub_cancel, eL t (by omega), eL m (Nat.le_refl _)]; exact lt_no.2 (hhi t (by omega) k2), fun R hR sR => ⟨?_, ?_⟩⟩
    · exact permIn_trans _ _ _ _ _ hP (permIn_trans _ _ _ _ _ (permIn_mono _ _ a m a b (by omega) (by omega) hb4 hL) (permIn_mono _ _ (m + 1) b a b (by omega) (by omega) bL hR))
    · have eR : ∀ t, t ≤ m → R[t]! = L[t]! := fun t k => hR.2.1 t (Or.inl (by omega))
      refine glue (v := d4[m]!) (sL.congr fun t _ k => eR t (by omega)) sR (by rw [eR m (Nat.le_refl _), eL m (Nat.le_refl _)]) (fun t k1 k2 => by rw [eR t (by omega)]; exact hloL t k1 k2) ?_
      exact permIn_all L R (m + 1) b (fun x => d4[m]! ≤ x) bL hR (fun t k1 k2 => by rw [eL t (by omega)]; exact hhi t (by omega) k2)
  · have bL : b ≤ L.size := by rw [hL.1]; exact hb4
    have eL : ∀ t, t ≤ m → L[t]! = d4[t]! := fun t k => hL.2.1 t (Or.inl (by omega))
    have hhiL : ∀ t, m + 1 ≤ t → t < b → d4[m]! ≤ L[t]! := permIn_all d4 L (m + 1) b (fun x => d4[m]! ≤ x) hb4 hL (fun t k1 k2 => hhi t (by omega) k2)
    refine ⟨?_, fun R hR sR => ⟨?_, ?_⟩⟩
    · rcases B1 with q | q
      · exact Or.inl q
      · exact Or.inr fun t k1 k2 => by rw [eL t (by omega), eL (a - 1) (by omega)]; exact q t k1 k2
    · exact permIn_trans _ _ _ _ _ hP (permIn_trans _ _ _ _ _ (permIn_mono _ _ (m + 1) b a b (by omega) (by omega) hb4 hL) (permIn_mono _ _ a m a b (by omega) (by omega) bL hR))
    · have eR : ∀ t, m ≤ t → R[t]! = L[t]! := fun t k => hR.2.1 t (Or.inr k)
      refine glue (v := d4[m]!) sR (sL.congr fun t k _ => eR t (by omega)) (by rw [eR m (Nat.le_refl _), eL m (Nat.le_refl _)]) ?_ (fun t k1 k2 => by rw [eR t (by omega)]; exact hhiL t k1 k2)
      exact permIn_all L R a m (fun x => x < d4[m]!) (by omega) hR (fun t k1 k2 => by rw [eL t (by omega)]; exact hlo t k1 k2)

end Go.Proofs.Ytdnjipikggehmaa
