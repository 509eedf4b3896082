/-
  A trial of a lane as plain data: what is kept and where the ram is, frame for frame. Contracts of stroke.checkAll, frame and isFar: they return what plain functions of whole numbers give; of the memory that was there nothing turns.
-/
import Derived.Test.YtihcioghbidblaaPts
import Derived.Test.YtihcioghbidblaaSrvStp
import Derived.Test.YtihcioghbidblaaRamStp
import Derived.Test.YtihcioghbidblaaRamPsh
import Derived.BigQuiet
namespace Go.Proofs.Ytihcioghbidblaa
open Go.RowKit
set_option linter.unusedVariables false

/-- a trial, but for its ram: Body (g, n, lo, hi), Servo (r, m, P, I, D, a, b), Oil, Load, Stuck -/
structure Tri where
  g : Int
  n : Int
  lo : Int
  hi : Int
  r : Int
  m : Int
  P : Int
  I : Int
  D : Int
  a : Int
  b : Int
  o : Int
  l : Int
  k : Bool
/-- what is kept (goal, sum, last, valve), and the ram -/
structure Sta where
  q : Int
  s : Int
  t : Int
  y : Int
  p : Int
  v : Int

/-- numbers of 32 bits -/
structure TI (x : Tri) : Prop where
  g : I32 x.g
  lo : I32 x.lo
  hi : I32 x.hi
  r : I32 x.r
  G : GI x.P x.I x.D x.a x.b
  o : I32 x.o
  l : I32 x.l
/-- a trial is right, with the ram at p -/
structure OkT (x : Tri) (p : Int) : Prop where
  body : OkB x.g x.n x.lo x.hi p
  srv : OkV x.r x.m
  a0 : x.a ≤ 0
  b0 : 0 ≤ x.b
/-- what is kept is right, and the ram is between its ends -/
structure SS (x : Tri) (z : Sta) : Prop where
  q : I32 z.q
  t : I32 z.t
  y : I32 z.y
  s1 : x.a ≤ z.s
  s2 : z.s ≤ x.b
  p1 : x.lo ≤ z.p
  p2 : z.p ≤ x.hi
/-- the valve as the servo tells it, and as it is -/
def vlF (x : Tri) (z : Sta) (u : Int) : Int := lowI z.y (stO x.P x.I x.D x.a x.b z.s z.t (s32 (rateI z.q u x.r - z.p))) x.m.toNat
def vaF (x : Tri) (z : Sta) (u : Int) : Int := if x.k then 0 else vlF x z u
/-- how far the ram is pushed -/
def puF (x : Tri) (z : Sta) (u : Int) : Int := frcI x.l (act 1 (psI 1 (vaF x z u) x.o)) (act 0 (psI 0 0 0)) (act 0 (psI 0 0 0)) (act 0 (psI 0 0 0))
/-- one frame later: u is wanted -/
def nxF (x : Tri) (z : Sta) (u : Int) : Sta :=
  ⟨rateI z.q u x.r, stS x.P x.I x.D x.a x.b z.s z.t (s32 (rateI z.q u x.r - z.p)), s32 (rateI z.q u x.r - z.p), vlF x z u, posI x.g (x.n + 0) x.lo x.hi z.p (puF x z u), velI (posI x.g (x.n + 0) x.lo x.hi z.p (puF x z u)) z.p⟩
theorem nxF_ok {x : Tri} {z : Sta} {u p0 : Int} (hT : TI x) (hO : OkT x p0) (h : SS x z) : SS x (nxF x z u) := by
  refine ⟨rateI_I hT.r, s32_I _, lowI_I _ h.y (stO_I hT.G.lo hT.G.hi), (stS_in h.s1 h.s2).1, (stS_in h.s1 h.s2).2, ?_, ?_⟩
  · exact (clampI_in (show x.lo ≤ x.hi by have := hO.body; unfold OkB at this; omega)).1
  · exact (clampI_in (show x.lo ≤ x.hi by have := hO.body; unfold OkB at this; omega)).2
/-- at first -/
def sta0 (p v : Int) : Sta := ⟨p, 0, 0, 0, p, v⟩
theorem I32_zero : I32 0 := ⟨by decide, by decide⟩
theorem sta0_ok {x : Tri} {p v : Int} (hO : OkT x p) (hp : I32 p) : SS x (sta0 p v) := ⟨hp, I32_zero, I32_zero, hO.a0, hO.b0, hO.body.1, hO.body.2.1⟩
/-- k frames later, what is wanted being u all the time -/
def rnF (x : Tri) (z : Sta) (u : Int) : Nat → Sta
  | 0 => z
  | k + 1 => nxF x (rnF x z u k) u
/-- behind the first j points -/
def ptF (x : Tri) (z : Sta) (l : Nat → Pt) : Nat → Sta
  | 0 => z
  | j + 1 => rnF x (ptF x z l j) (l j).w (l j).f.toNat
theorem rnF_ok {x : Tri} {z : Sta} {u p0 : Int} (hT : TI x) (hO : OkT x p0) (h : SS x z) (k : Nat) : SS x (rnF x z u k) := by
  induction k with
  | zero => exact h
  | succ k ih => exact nxF_ok hT hO ih
theorem ptF_ok {x : Tri} {z : Sta} {p0 : Int} (hT : TI x) (hO : OkT x p0) (h : SS x z) (l : Nat → Pt) (j : Nat) : SS x (ptF x z l j) := by
  induction j with
  | zero => exact h
  | succ j ih => exact rnF_ok hT hO ih _
/-- the ram is farther from what is wanted than it may be -/
def faP (p : Int) (c : Pt) : Bool := decide (c.d < max (p - c.w) (-(p - c.w)))
/-- the j-th point isn't reached -/
def msF (x : Tri) (z : Sta) (l : Nat → Pt) (j : Nat) : Bool := faP (ptF x z l (j + 1)).p (l j)
/-- the first of n that isn't, or n -/
def fiB (F : Nat → Bool) : Nat → Nat
  | 0 => 0
  | n + 1 => if fiB F n < n then fiB F n else if F n then n else n + 1
theorem fiB_le (F : Nat → Bool) (n : Nat) : fiB F n ≤ n := by
  induction n with
  | zero => exact Nat.le_refl _
  | succ n ih =>
    show (if fiB F n < n then fiB F n else if F n then n else n + 1) ≤ n + 1
    repeat' split
    all_goals omega
theorem fiB_none {F : Nat → Bool} {n : Nat} (h : ∀ j, j < n → F j = false) : fiB F n = n := by
  induction n with
  | zero => rfl
  | succ n ih =>
    show (if fiB F n < n then fiB F n else if F n then n else n + 1) = n + 1
    rw [ih (fun j hj => h j (by omega)), if_neg (by omega), h n (by omega)]
    rfl
theorem fiB_at {F : Nat → Bool} {n j : Nat} (h : ∀ i, i < j → F i = false) (hj : F j = true) (hn : j < n) : fiB F n = j := by
  induction n with
  | zero => omega
  | succ n ih =>
    show (if fiB F n < n then fiB F n else if F n then n else n + 1) = j
    by_cases e : j = n
    · subst e
      rw [fiB_none h, if_neg (by omega), hj]
      rfl
    · rw [ih (by omega), if_pos (by omega)]
theorem fiB_congr {F G : Nat → Bool} {n : Nat} (h : ∀ j, j < n → F j = G j) : fiB F n = fiB G n := by
  induction n with
  | zero => rfl
  | succ n ih =>
    show (if fiB F n < n then fiB F n else if F n then n else n + 1) = (if fiB G n < n then fiB G n else if G n then n else n + 1)
    rw [ih (fun j hj => h j (by omega)), h n (by omega)]
/-- what Test tells: the number of the first point that isn't reached, or of all, and the ram then -/
def tsN (x : Tri) (z : Sta) (l : Nat → Pt) (n : Nat) : Nat := fiB (msF x z l) n
def tsR (x : Tri) (z : Sta) (l : Nat → Pt) (n : Nat) : Sta := ptF x z l (min (tsN x z l n + 1) n)
/-- what is wrong with a trial and its points -/
noncomputable def tsE (x : Tri) (p : Int) (l : Nat → Pt) (n : Nat) : Int :=
  open Classical in if chP l n ≠ 0 then chP l n else if OkT x p then 0 else 1
theorem tsE_one {x : Tri} {p : Int} {l : Nat → Pt} {n : Nat} (h : chP l n ≠ 0) : tsE x p l n = chP l n := by unfold tsE; rw [if_pos h]
theorem tsE_two {x : Tri} {p : Int} {l : Nat → Pt} {n : Nat} (h : chP l n = 0) (h2 : ¬ OkT x p) : tsE x p l n = 1 := by unfold tsE; rw [if_neg (by simp [h]), if_neg h2]
theorem tsE_ok {x : Tri} {p : Int} {l : Nat → Pt} {n : Nat} (h : chP l n = 0) (h2 : OkT x p) : tsE x p l n = 0 := by unfold tsE; rw [if_neg (by simp [h]), if_pos h2]
theorem tsE_zero {x : Tri} {p : Int} {l : Nat → Pt} {n : Nat} (h : tsE x p l n = 0) : chP l n = 0 ∧ OkT x p := by
  unfold tsE at h
  split at h
  · rename_i q
    exact absurd h q
  · rename_i q
    split at h
    · rename_i r
      exact ⟨by simpa using q, r⟩
    · cases h

set_option maxHeartbeats 1000000 in
theorem ckA_list (x : Tri) (p v : Int) (a : Option Addr) (n c : Nat) (l : Nat → Pt) (w : World) (h : RowP w a n l) (E : Int) (hE : chP l n = E) (h0 : E ≠ 0) :
    Calls Try.prog 15 #[.agg #[.int .i32 x.g, .int .i64 x.n, .int .i32 x.lo, .int .i32 x.hi, .int .i32 p, .int .i32 v, .int .i32 x.r, .int .i64 x.m, .int .i32 x.P, .int .i32 x.I, .int .i32 x.D, .int .i32 x.a, .int .i32 x.b, .int .i32 x.o, .int .i32 x.l, .bool x.k], .slice a n c] w fun e w' => e = .returned (.int .i64 E) ∧ Below w.heap.size w w' := by
  have B0 : Hid (_) := (bxs_nil w).push #[.int .i32 x.g, .int .i64 x.n, .int .i32 x.lo, .int .i32 x.hi, .int .i32 p, .int .i32 v, .int .i32 x.r, .int .i64 x.m, .int .i32 x.P, .int .i32 x.I, .int .i32 x.D, .int .i32 x.a, .int .i32 x.b, .int .i32 x.o, .int .i32 x.l, .bool x.k] 31
  have HR : Hid (RowP w a n l) := h
  have C : Hid (∀ W, RowP W a n l → Calls Try.prog 10 #[.slice a n c] W fun e w' => e = .returned (.int .i64 E) ∧ Below W.heap.size W w') := fun W hW => by
    rw [← hE]
    exact ckP_any a n c l W hW
  have q : (E != 0) = true := by simpa using h0
  clear h hE h0
  go_enter Try.func15, Try.ntmps15
  go_wp2_with fail
  refine (C.out _ (HR.out.step B0.out.bel)).mono ?_
  rintro e w1 ⟨rfl, hb⟩
  have B1 : Hid (_) := B0.out.step hb
  clear hb B0
  go_wp2_with fail
  go_ret
  exact ⟨rfl, B1.out.bel⟩

set_option maxHeartbeats 1000000 in
theorem ckA_body (x : Tri) (p v : Int) (a : Option Addr) (n c : Nat) (l : Nat → Pt) (w : World) (h : RowP w a n l) (hE : chP l n = 0) (h0 : ¬ OkB x.g x.n x.lo x.hi p) :
    Calls Try.prog 15 #[.agg #[.int .i32 x.g, .int .i64 x.n, .int .i32 x.lo, .int .i32 x.hi, .int .i32 p, .int .i32 v, .int .i32 x.r, .int .i64 x.m, .int .i32 x.P, .int .i32 x.I, .int .i32 x.D, .int .i32 x.a, .int .i32 x.b, .int .i32 x.o, .int .i32 x.l, .bool x.k], .slice a n c] w fun e w' => e = .returned (.int .i64 1) ∧ Below w.heap.size w w' := by
  have B0 : Hid (_) := (bxs_nil w).push #[.int .i32 x.g, .int .i64 x.n, .int .i32 x.lo, .int .i32 x.hi, .int .i32 p, .int .i32 v, .int .i32 x.r, .int .i64 x.m, .int .i32 x.P, .int .i32 x.I, .int .i32 x.D, .int .i32 x.a, .int .i32 x.b, .int .i32 x.o, .int .i32 x.l, .bool x.k] 31
  have HR : Hid (RowP w a n l) := h
  have C : Hid (∀ W, RowP W a n l → Calls Try.prog 10 #[.slice a n c] W fun e w' => e = .returned (.int .i64 0) ∧ Below W.heap.size W w') := fun W hW => by
    rw [← hE]
    exact ckP_any a n c l W hW
  have C2 : Hid (_) := fun W => ramCheck_bad x.g x.n x.lo x.hi p v W h0
  clear h hE h0
  go_enter Try.func15, Try.ntmps15
  go_wp2_with fail
  refine (C.out _ (HR.out.step B0.out.bel)).mono ?_
  rintro e w1 ⟨rfl, hb⟩
  have B1 : Hid (_) := B0.out.step hb
  clear hb B0
  have tl := (B1.out.box 0 _ _ rfl).lt
  have t0 := (B1.out.box 0 _ _ rfl).cell 0 _ rfl
  have t1 := (B1.out.box 0 _ _ rfl).cell 1 _ rfl
  have t2 := (B1.out.box 0 _ _ rfl).cell 2 _ rfl
  have t3 := (B1.out.box 0 _ _ rfl).cell 3 _ rfl
  have t4 := (B1.out.box 0 _ _ rfl).cell 4 _ rfl
  have t5 := (B1.out.box 0 _ _ rfl).cell 5 _ rfl
  have t6 := (B1.out.box 0 _ _ rfl).cell 6 _ rfl
  have t7 := (B1.out.box 0 _ _ rfl).cell 7 _ rfl
  have t8 := (B1.out.box 0 _ _ rfl).cell 8 _ rfl
  have t9 := (B1.out.box 0 _ _ rfl).cell 9 _ rfl
  have t10 := (B1.out.box 0 _ _ rfl).cell 10 _ rfl
  have t11 := (B1.out.box 0 _ _ rfl).cell 11 _ rfl
  have t12 := (B1.out.box 0 _ _ rfl).cell 12 _ rfl
  have t13 := (B1.out.box 0 _ _ rfl).cell 13 _ rfl
  have t14 := (B1.out.box 0 _ _ rfl).cell 14 _ rfl
  have t15 := (B1.out.box 0 _ _ rfl).cell 15 _ rfl
  go_wp2_with fail
  refine (C2.out _).mono ?_
  rintro e w2 ⟨rfl, hb⟩
  have B2 : Hid (_) := B1.out.step hb
  clear hb B1
  go_wp2_with fail
  go_ret
  exact ⟨rfl, B2.out.bel⟩

set_option maxHeartbeats 1000000 in
theorem ckA_srv (x : Tri) (p v : Int) (a : Option Addr) (n c : Nat) (l : Nat → Pt) (w : World) (h : RowP w a n l) (hE : chP l n = 0) (h0 : OkB x.g x.n x.lo x.hi p) (E : Int) (hV : ∀ W, Calls Try.prog 27 #[.agg #[.int .i32 x.r, .int .i64 x.m, .int .i32 x.P, .int .i32 x.I, .int .i32 x.D, .int .i32 x.a, .int .i32 x.b], .agg #[.int .i32 0, .int .i32 0, .int .i32 0, .int .i32 0]] W fun e w' => e = .returned (.int .i64 E) ∧ Below W.heap.size W w') :
    Calls Try.prog 15 #[.agg #[.int .i32 x.g, .int .i64 x.n, .int .i32 x.lo, .int .i32 x.hi, .int .i32 p, .int .i32 v, .int .i32 x.r, .int .i64 x.m, .int .i32 x.P, .int .i32 x.I, .int .i32 x.D, .int .i32 x.a, .int .i32 x.b, .int .i32 x.o, .int .i32 x.l, .bool x.k], .slice a n c] w fun e w' => e = .returned (.int .i64 E) ∧ Below w.heap.size w w' := by
  have B0 : Hid (_) := (bxs_nil w).push #[.int .i32 x.g, .int .i64 x.n, .int .i32 x.lo, .int .i32 x.hi, .int .i32 p, .int .i32 v, .int .i32 x.r, .int .i64 x.m, .int .i32 x.P, .int .i32 x.I, .int .i32 x.D, .int .i32 x.a, .int .i32 x.b, .int .i32 x.o, .int .i32 x.l, .bool x.k] 31
  have HR : Hid (RowP w a n l) := h
  have C : Hid (∀ W, RowP W a n l → Calls Try.prog 10 #[.slice a n c] W fun e w' => e = .returned (.int .i64 0) ∧ Below W.heap.size W w') := fun W hW => by
    rw [← hE]
    exact ckP_any a n c l W hW
  have C2 : Hid (_) := fun W => ramCheck_ok x.g x.n x.lo x.hi p v W h0
  have C3 : Hid (_) := hV
  clear h hE h0 hV
  go_enter Try.func15, Try.ntmps15
  go_wp2_with fail
  refine (C.out _ (HR.out.step B0.out.bel)).mono ?_
  rintro e w1 ⟨rfl, hb⟩
  have B1 : Hid (_) := B0.out.step hb
  clear hb B0
  have tl := (B1.out.box 0 _ _ rfl).lt
  have t0 := (B1.out.box 0 _ _ rfl).cell 0 _ rfl
  have t1 := (B1.out.box 0 _ _ rfl).cell 1 _ rfl
  have t2 := (B1.out.box 0 _ _ rfl).cell 2 _ rfl
  have t3 := (B1.out.box 0 _ _ rfl).cell 3 _ rfl
  have t4 := (B1.out.box 0 _ _ rfl).cell 4 _ rfl
  have t5 := (B1.out.box 0 _ _ rfl).cell 5 _ rfl
  have t6 := (B1.out.box 0 _ _ rfl).cell 6 _ rfl
  have t7 := (B1.out.box 0 _ _ rfl).cell 7 _ rfl
  have t8 := (B1.out.box 0 _ _ rfl).cell 8 _ rfl
  have t9 := (B1.out.box 0 _ _ rfl).cell 9 _ rfl
  have t10 := (B1.out.box 0 _ _ rfl).cell 10 _ rfl
  have t11 := (B1.out.box 0 _ _ rfl).cell 11 _ rfl
  have t12 := (B1.out.box 0 _ _ rfl).cell 12 _ rfl
  have t13 := (B1.out.box 0 _ _ rfl).cell 13 _ rfl
  have t14 := (B1.out.box 0 _ _ rfl).cell 14 _ rfl
  have t15 := (B1.out.box 0 _ _ rfl).cell 15 _ rfl
  go_wp2_with fail
  refine (C2.out _).mono ?_
  rintro e w2 ⟨rfl, hb⟩
  have B2 : Hid (_) := B1.out.step hb
  clear hb B1
  clear tl t0 t1 t2 t3 t4 t5 t6 t7 t8 t9 t10 t11 t12 t13 t14 t15
  have tl := (B2.out.box 0 _ _ rfl).lt
  have t0 := (B2.out.box 0 _ _ rfl).cell 0 _ rfl
  have t1 := (B2.out.box 0 _ _ rfl).cell 1 _ rfl
  have t2 := (B2.out.box 0 _ _ rfl).cell 2 _ rfl
  have t3 := (B2.out.box 0 _ _ rfl).cell 3 _ rfl
  have t4 := (B2.out.box 0 _ _ rfl).cell 4 _ rfl
  have t5 := (B2.out.box 0 _ _ rfl).cell 5 _ rfl
  have t6 := (B2.out.box 0 _ _ rfl).cell 6 _ rfl
  have t7 := (B2.out.box 0 _ _ rfl).cell 7 _ rfl
  have t8 := (B2.out.box 0 _ _ rfl).cell 8 _ rfl
  have t9 := (B2.out.box 0 _ _ rfl).cell 9 _ rfl
  have t10 := (B2.out.box 0 _ _ rfl).cell 10 _ rfl
  have t11 := (B2.out.box 0 _ _ rfl).cell 11 _ rfl
  have t12 := (B2.out.box 0 _ _ rfl).cell 12 _ rfl
  have t13 := (B2.out.box 0 _ _ rfl).cell 13 _ rfl
  have t14 := (B2.out.box 0 _ _ rfl).cell 14 _ rfl
  have t15 := (B2.out.box 0 _ _ rfl).cell 15 _ rfl
  go_wp2_with fail
  refine (C3.out _).mono ?_
  rintro e w3 ⟨rfl, hb⟩
  have B3 : Hid (_) := B2.out.step hb
  clear hb B2
  go_wp2_with fail
  go_ret
  exact ⟨rfl, B3.out.bel⟩

theorem ckA_any (x : Tri) (p v : Int) (a : Option Addr) (n c : Nat) (l : Nat → Pt) (w : World) (h : RowP w a n l) :
    Calls Try.prog 15 #[.agg #[.int .i32 x.g, .int .i64 x.n, .int .i32 x.lo, .int .i32 x.hi, .int .i32 p, .int .i32 v, .int .i32 x.r, .int .i64 x.m, .int .i32 x.P, .int .i32 x.I, .int .i32 x.D, .int .i32 x.a, .int .i32 x.b, .int .i32 x.o, .int .i32 x.l, .bool x.k], .slice a n c] w fun e w' => e = .returned (.int .i64 (tsE x p l n)) ∧ Below w.heap.size w w' := by
  by_cases h1 : chP l n = 0
  · by_cases h2 : OkB x.g x.n x.lo x.hi p
    · by_cases h3 : OkV x.r x.m ∧ x.a ≤ 0 ∧ 0 ≤ x.b
      · rw [tsE_ok h1 ⟨h2, h3.1, h3.2.1, h3.2.2⟩]
        exact ckA_srv x p v a n c l w h h1 h2 _ (fun W => srvCheck_ok x.r x.m x.P x.I x.D x.a x.b 0 0 0 0 W h3.1 h3.2.1 h3.2.2)
      · rw [tsE_two h1 (fun k => h3 ⟨k.srv, k.a0, k.b0⟩)]
        exact ckA_srv x p v a n c l w h h1 h2 _ (fun W => srvCheck_bad x.r x.m x.P x.I x.D x.a x.b 0 0 0 0 W h3)
    · rw [tsE_two h1 (fun k => h2 k.body)]
      exact ckA_body x p v a n c l w h h1 h2
  · rw [tsE_one h1]
    exact ckA_list x p v a n c l w h _ rfl h1

set_option maxHeartbeats 1000000 in
theorem isFarP_any (p : Int) (c : Pt) (w : World) (hp : I32 p) (hw : I32 c.w) (hd : I32 c.d) : Calls Try.prog 18 #[.int .i32 p, .agg #[.int .i32 c.w, .int .i64 c.f, .int .i32 c.d]] w fun e w' => e = .returned (.bool (faP p c)) ∧ Below w.heap.size w w' := by
  unfold faP
  obtain ⟨M, hM⟩ : ∃ M, max (p - c.w) (-(p - c.w)) = M := ⟨_, rfl⟩
  have MX : ∀ (ts : Array TypeId) (t : TypeId) W, (Builtin.max_ ts t #[.int .i64 (p - c.w), .int .i64 (-(p - c.w))]).run Try.prog W = .ok (.int .i64 M) W := fun ts t W => by
    rw [run_max_int2 W ts t .i64 .i64 (p - c.w) (-(p - c.w))]
    by_cases e : p - c.w < -(p - c.w)
    · rw [if_pos e, show M = -(p - c.w) from by omega]
    · rw [if_neg e, show M = p - c.w from by omega]
  rw [hM]
  clear hM
  obtain ⟨p1, p2⟩ := hp
  obtain ⟨w1, w2⟩ := hw
  obtain ⟨d1, d2⟩ := hd
  go_enter Try.func18, Try.ntmps18
  go_wp2_with fail
  go_ret
  exact ⟨rfl, one_box _ _⟩

end Go.Proofs.Ytihcioghbidblaa
