import Derived.Test.YtgidaaogknikoaaHhHhVHiHj
set_option linter.unusedVariables false
set_option linter.unusedSimpArgs false
namespace Go.Proofs.Ytgidaaogknikoaa
open Go Go.Lg
attribute [local irreducible] bodyH funS
noncomputable def regH (nr : Nat) (ms : FS → XS → Ms) (t : FS) (X : XS) (D E : DS) : HSpec :=
  { toLSpec := { σ := Unit, inv := fun _ => True, μ := fun _ => 0, nr := nr, ms := ms, t := fun _ => t, X := fun _ => X, rd := fun _ _ k => k (), rdOK := fun _ _ _ h => ⟨(), h⟩ }, D := D, E := E }
def kX (L : Sl) (w : Int) : Nat := (w.tmod L.n).toNat
def rotL (L : Sl) (k : Nat) : Sl := ⟨L.n, fun i => if i < L.n - k then L.f (k + i) else L.f (i - (L.n - k))⟩
def ricL (L : Sl) (k : Nat) (d : Int) : Sl := ⟨L.n, fun i => ⟨(L.f i).lo, (L.f i).hi, (L.f i).v, if i = k then min 20 ((L.f i).mo + d) else (L.f i).mo, (L.f i).pay⟩⟩
def morL (L : Sl) (t : Sup) : Sl := ⟨L.n + 1, fun i => if i < L.n then L.f i else t⟩
noncomputable def slR (L : Sl) : Option SRow := rw' 5 L.n fun i => (L.f i).sv
noncomputable def hmFr (L : Sl) (v a b w y : Int) (l : List (Nat × SV)) : FS := mkF 190 ((0, L.sv) :: (2, i6 v) :: (3, i6 a) :: (4, i6 b) :: (6, .int .u8 y) :: (8, .ptr 0 0 0) :: (16, i6 (ctX L v a b)) :: (18, i6 (kX L w)) :: l)
noncomputable def hm2 (L : Sl) (v a b w y : Int) (l : List (Nat × SV)) : FS := hmFr L v a b w y ((20, .sl 1 0 L.n) :: (22, i6 (ctX (ricL L (kX L w) (y.tmod 5)) v a b)) :: (23, i6 (erX (ricL L (kX L w) (y.tmod 5)) v a b)) :: l)
noncomputable def hmL (L : Sl) (t : Sup) (v a b w y : Int) : Nat → Option HSpec :=
  twoL 1007 (regH 1 (fun t _ => match sget 190 t 19, sget 190 t 20 with
      | .sl r _ _, .sl s _ _ => [some r, some s]
      | _, _ => []) (hmFr L v a b w y [(19, .sl 1 0 L.n), (20, .sl 2 0 L.n)]) (mkX [vr 5 t.sv, slR L, slR (rotL L (kX L w))]) [] [(2, 0), (7, 0), (11, 0)]) <|
  oneL 1010 (regH 1 (fun t _ => match sget 190 t 20 with
      | .sl s _ _ => [some s]
      | _ => []) (hm2 L v a b w y [(25, i6 (ctX (morL L t) v a b)), (26, i6 (erX (morL L t) v a b))]) (mkX [vr 5 t.sv, slR (rotL L (kX L w))]) [(3, 0)] [(2, 0), (5, 0)])
noncomputable def hmG (L : Sl) (t : Sup) (v a b w y : Int) : Prop := funH Try.prog csM noX (ictrs []) (hmL L t v a b w y) noL 6 [L.sv, t.sv, i6 v, i6 a, i6 b, .int .u8 w, .int .u8 y] (.bool true)
end Go.Proofs.Ytgidaaogknikoaa

set_option maxRecDepth 100000
namespace Go.Proofs.Ytgidaaogknikoaa
open Go Go.Lg
attribute [local irreducible] bodyH funS
theorem cheap {L : Sl} {v a b : Int} {y : Xs} (hL : okSl L) (hn : L.n ≤ 4) (hv : 1 ≤ v ∧ v ≤ 80) (hs : okSp a b) (hr : Rig L (dmOf v a b) y) : erX L v a b = 0 ∧ ctX L v a b ≤ csS L y L.n := by
  have e : erX L v a b = 0 := Classical.byContradiction fun h => ((none_of h hn hL).2 hv hs).2 y hr
  have B := best_of e
  exact ⟨e, by rw [B.c]; exact (B.o y hr).1⟩
theorem ric_ok {L : Sl} (hL : okSl L) {k : Nat} {d : Int} (hd : 0 ≤ d) : okSl (ricL L k d) := fun i hi => by
  have h := hL i hi
  have m0 := h.m0
  have m1 := h.m1
  refine ⟨h.sp, h.v0, h.v1, ?_, ?_, h.p0, h.p1⟩
  · show 0 ≤ if i = k then min 20 ((L.f i).mo + d) else (L.f i).mo
    split <;> omega
  · show (if i = k then min 20 ((L.f i).mo + d) else (L.f i).mo) ≤ 20
    split <;> omega
theorem ric_le {L : Sl} {v a b : Int} (e0 : erX L v a b = 0) {k : Nat} {d : Int} (hd : 0 ≤ d) : erX (ricL L k d) v a b = 0 ∧ ctX (ricL L k d) v a b ≤ ctX L v a b := by
  have B := best_of e0
  have h := cheap (L := ricL L k d) (y := mX L v a b) (ric_ok B.hL hd) B.hn B.hv B.hs ⟨fun i hi => ?_, B.r.v, B.r.c, B.r.h⟩
  · exact ⟨h.1, by rw [B.c]; exact h.2⟩
  · have h1 := B.r.b i hi
    have m1 := (B.hL i hi).m1
    refine ⟨h1.1, ?_⟩
    show mX L v a b i ≤ if i = k then min 20 ((L.f i).mo + d) else (L.f i).mo
    split <;> omega
theorem mor_le {L : Sl} {v a b : Int} (e0 : erX L v a b = 0) (h3 : L.n ≤ 3) {t : Sup} (ht : okSu t) : erX (morL L t) v a b = 0 ∧ ctX (morL L t) v a b ≤ ctX L v a b := by
  have B := best_of e0
  have lt : ∀ i, i < L.n → (morL L t).f i = L.f i := fun i hi => by show (if i < L.n then L.f i else t) = _; rw [if_pos hi]
  have ln : (morL L t).f L.n = t := by show (if L.n < L.n then L.f L.n else t) = _; rw [if_neg (Nat.lt_irrefl _)]
  have hok : okSl (morL L t) := fun i hi => by
    have hi : i < L.n + 1 := hi
    by_cases h : i < L.n
    · rw [lt i h]; exact B.hL i h
    · rw [show i = L.n by omega, ln]; exact ht
  let y : Xs := fun i => if i < L.n then mX L v a b i else 0
  have yl : ∀ i, i < L.n → y i = mX L v a b i := fun i hi => if_pos hi
  have yn : y L.n = 0 := if_neg (Nat.lt_irrefl _)
  have sm : ∀ g : Sup → Int, sumJ (fun i => y i * g ((morL L t).f i)) (L.n + 1) = sumJ (fun i => mX L v a b i * g (L.f i)) L.n := fun g => by
    have e : sumJ (fun i => y i * g ((morL L t).f i)) (L.n + 1) = sumJ (fun i => y i * g ((morL L t).f i)) L.n + y L.n * g ((morL L t).f L.n) := rfl
    rw [e, yn, Int.zero_mul, Int.add_zero]
    exact sumJ_cg fun i hi => by rw [yl i hi, lt i hi]
  have s1 : voS (morL L t) y (L.n + 1) = voS L (mX L v a b) L.n := sm (·.v)
  have s2 : coS (morL L t) y (L.n + 1) = coS L (mX L v a b) L.n := sm (·.lo)
  have s3 : hoS (morL L t) y (L.n + 1) = hoS L (mX L v a b) L.n := sm (·.hi)
  have s4 : csS (morL L t) y (L.n + 1) = csS L (mX L v a b) L.n := sm (·.pay)
  have h := cheap (L := morL L t) (y := y) hok (by show L.n + 1 ≤ 4; omega) B.hv B.hs ⟨fun i hi => ?_, by show voS (morL L t) y (L.n + 1) = _; rw [s1]; exact B.r.v, by show _ ≤ coS (morL L t) y (L.n + 1); rw [s2]; exact B.r.c, by show hoS (morL L t) y (L.n + 1) ≤ _; rw [s3]; exact B.r.h⟩
  · refine ⟨h.1, ?_⟩
    have h2 : _ ≤ csS (morL L t) y (L.n + 1) := h.2
    rw [s4] at h2
    rw [B.c]; exact h2
  · have hi : i < L.n + 1 := hi
    by_cases q : i < L.n
    · rw [yl i q, lt i q]; exact B.r.b i q
    · rw [show i = L.n by omega, yn, ln]; exact ⟨Int.le_refl _, ht.m0⟩
theorem mor_er {L : Sl} {v a b : Int} (h3 : L.n ≤ 3) {t : Sup} (ht : ¬ okSu t) : erX (morL L t) v a b = 1 := by
  refine erX1 (by show ¬ 4 < L.n + 1; omega) fun h => ht ?_
  have := h L.n (Nat.lt_succ_self _)
  have ln : (morL L t).f L.n = t := by show (if L.n < L.n then L.f L.n else t) = _; rw [if_neg (Nat.lt_irrefl _)]
  rw [ln] at this
  exact this
theorem wid_le {L : Sl} {v a b a' b' : Int} (e0 : erX L v a b = 0) (h1 : 0 ≤ a' ∧ a' ≤ a) (h2 : b ≤ b' ∧ b' ≤ 10000) : erX L v a' b' = 0 ∧ ctX L v a' b' ≤ ctX L v a b := by
  have B := best_of e0
  have hv := B.hv
  have g1 : a' * v ≤ a * v := Int.mul_le_mul_of_nonneg_right h1.2 (by omega)
  have g2 : b * v ≤ b' * v := Int.mul_le_mul_of_nonneg_right h2.1 (by omega)
  have c1 : a * v ≤ coS L (mX L v a b) L.n := B.r.c
  have c2 : hoS L (mX L v a b) L.n ≤ b * v := B.r.h
  have h := cheap (L := L) (v := v) (a := a') (b := b') (y := mX L v a b) B.hL B.hn B.hv ⟨h1.1, by have := B.hs.b; omega, h2.2⟩ ⟨B.r.b, B.r.v, by show a' * v ≤ _; omega, by show _ ≤ b' * v; omega⟩
  exact ⟨h.1, by rw [B.c]; exact h.2⟩
theorem sumJ_add (g : Nat → Int) (m : Nat) : ∀ n, sumJ g (m + n) = sumJ g m + sumJ (fun i => g (m + i)) n
  | 0 => by show sumJ g m = sumJ g m + 0; omega
  | n + 1 => by
    have ih := sumJ_add g m n
    have e1 : sumJ g (m + (n + 1)) = sumJ g (m + n) + g (m + n) := rfl
    have e2 : sumJ (fun i => g (m + i)) (n + 1) = sumJ (fun i => g (m + i)) n + g (m + n) := rfl
    rw [e1, e2, ih]; omega
theorem rot_sum (g : Nat → Int) {n k : Nat} (hk : k ≤ n) : sumJ (fun i => if i < n - k then g (k + i) else g (i - (n - k))) n = sumJ g n := by
  have e1 := sumJ_add (fun i => if i < n - k then g (k + i) else g (i - (n - k))) (n - k) k
  have e2 := sumJ_add g k (n - k)
  rw [show n - k + k = n by omega] at e1
  rw [show k + (n - k) = n by omega] at e2
  rw [e1, e2]
  have e3 : sumJ (fun i => if i < n - k then g (k + i) else g (i - (n - k))) (n - k) = sumJ (fun i => g (k + i)) (n - k) := sumJ_cg fun i hi => if_pos hi
  have e4 : sumJ (fun i => (fun i => if i < n - k then g (k + i) else g (i - (n - k))) (n - k + i)) k = sumJ g k := sumJ_cg fun i hi => by
    show (if n - k + i < n - k then g (k + (n - k + i)) else g (n - k + i - (n - k))) = g i
    rw [if_neg (by omega), show n - k + i - (n - k) = i by omega]
  rw [e3, e4]; omega
def rotX (n k : Nat) (x : Xs) : Xs := fun i => if i < n - k then x (k + i) else x (i - (n - k))
def unrX (n k : Nat) (x : Xs) : Xs := fun i => if i < k then x (i + (n - k)) else x (i - k)
theorem rotS (L : Sl) {k : Nat} (hk : k ≤ L.n) (x : Xs) (g : Sup → Int) : sumJ (fun i => rotX L.n k x i * g ((rotL L k).f i)) L.n = sumJ (fun i => x i * g (L.f i)) L.n := by
  rw [← rot_sum (fun i => x i * g (L.f i)) hk]
  refine sumJ_cg fun i hi => ?_
  show (if i < L.n - k then x (k + i) else x (i - (L.n - k))) * g (if i < L.n - k then L.f (k + i) else L.f (i - (L.n - k))) = _
  by_cases h : i < L.n - k
  · rw [if_pos h, if_pos h, if_pos h]
  · rw [if_neg h, if_neg h, if_neg h]
theorem rot_rig {L : Sl} {k : Nat} (hk : k ≤ L.n) {D : Dm} {x : Xs} : Rig L D x ↔ Rig (rotL L k) D (rotX L.n k x) := by
  have s1 : voS (rotL L k) (rotX L.n k x) L.n = voS L x L.n := rotS L hk x (·.v)
  have s2 : coS (rotL L k) (rotX L.n k x) L.n = coS L x L.n := rotS L hk x (·.lo)
  have s3 : hoS (rotL L k) (rotX L.n k x) L.n = hoS L x L.n := rotS L hk x (·.hi)
  have bb : ∀ i, i < L.n → (i < L.n - k → rotX L.n k x i = x (k + i) ∧ (rotL L k).f i = L.f (k + i)) ∧ (¬ i < L.n - k → rotX L.n k x i = x (i - (L.n - k)) ∧ (rotL L k).f i = L.f (i - (L.n - k))) := fun i _ => ⟨fun h => ⟨if_pos h, if_pos h⟩, fun h => ⟨if_neg h, if_neg h⟩⟩
  constructor
  · intro h
    refine ⟨fun i hi => ?_, by show voS (rotL L k) (rotX L.n k x) L.n = _; rw [s1]; exact h.v, by show _ ≤ coS (rotL L k) (rotX L.n k x) L.n; rw [s2]; exact h.c, by show hoS (rotL L k) (rotX L.n k x) L.n ≤ _; rw [s3]; exact h.h⟩
    have hi : i < L.n := hi
    by_cases q : i < L.n - k
    · obtain ⟨e1, e2⟩ := (bb i hi).1 q
      rw [e1, e2]; exact h.b _ (by omega)
    · obtain ⟨e1, e2⟩ := (bb i hi).2 q
      rw [e1, e2]; exact h.b _ (by omega)
  · intro h
    have hb := h.b
    refine ⟨fun i hi => ?_, by rw [← s1]; exact h.v, by rw [← s2]; exact h.c, by rw [← s3]; exact h.h⟩
    by_cases q : i < k
    · have := hb (i + (L.n - k)) (by show _ < L.n; omega)
      obtain ⟨e1, e2⟩ := (bb (i + (L.n - k)) (by omega)).2 (by omega)
      rw [e1, e2, show i + (L.n - k) - (L.n - k) = i by omega] at this
      exact this
    · have := hb (i - k) (by show _ < L.n; omega)
      obtain ⟨e1, e2⟩ := (bb (i - k) (by omega)).1 (by omega)
      rw [e1, e2, show k + (i - k) = i by omega] at this
      exact this
theorem unr_rot {n k : Nat} (hk : k ≤ n) (y : Xs) : ∀ i, i < n → y i = rotX n k (unrX n k y) i := fun i hi => by
  show y i = if i < n - k then (if k + i < k then y (k + i + (n - k)) else y (k + i - k)) else (if i - (n - k) < k then y (i - (n - k) + (n - k)) else y (i - (n - k) - k))
  by_cases h : i < n - k
  · rw [if_pos h, if_neg (by omega), show k + i - k = i by omega]
  · rw [if_neg h, if_pos (by omega), show i - (n - k) + (n - k) = i by omega]
theorem rot_eq {L : Sl} {v a b : Int} (e0 : erX L v a b = 0) {k : Nat} (hk : k ≤ L.n) : erX (rotL L k) v a b = 0 ∧ ctX (rotL L k) v a b = ctX L v a b := by
  have B := best_of e0
  have hok : okSl (rotL L k) := fun i hi => by
    have hi : i < L.n := hi
    show okSu (if i < L.n - k then L.f (k + i) else L.f (i - (L.n - k)))
    by_cases h : i < L.n - k
    · rw [if_pos h]; exact B.hL _ (by omega)
    · rw [if_neg h]; exact B.hL _ (by omega)
  have h := cheap (L := rotL L k) hok B.hn B.hv B.hs ((rot_rig hk).1 B.r)
  have s4 : csS (rotL L k) (rotX L.n k (mX L v a b)) L.n = csS L (mX L v a b) L.n := rotS L hk _ (·.pay)
  have h2 : ctX (rotL L k) v a b ≤ csS (rotL L k) (rotX L.n k (mX L v a b)) L.n := h.2
  have B3 := best_of h.1
  have q := unr_rot hk (mX (rotL L k) v a b)
  have r3 : Rig (rotL L k) (dmOf v a b) (rotX L.n k (unrX L.n k (mX (rotL L k) v a b))) := rig_congr (L := rotL L k) (fun i hi => (q i hi).symm) B3.r
  have o := (B.o _ ((rot_rig hk).2 r3)).1
  have s5 : csS (rotL L k) (rotX L.n k (unrX L.n k (mX (rotL L k) v a b))) L.n = csS L (unrX L.n k (mX (rotL L k) v a b)) L.n := rotS L hk _ (·.pay)
  have s6 : csS (rotL L k) (mX (rotL L k) v a b) L.n = csS (rotL L k) (rotX L.n k (unrX L.n k (mX (rotL L k) v a b))) L.n := (same_s (L := rotL L k) q).2.2.2
  have c3 : ctX (rotL L k) v a b = csS (rotL L k) (mX (rotL L k) v a b) L.n := B3.c
  have c := B.c
  exact ⟨h.1, by omega⟩
end Go.Proofs.Ytgidaaogknikoaa

set_option maxRecDepth 100000
namespace Go.Proofs.Ytgidaaogknikoaa
open Go Go.Lg
noncomputable def lfT1 (L : Sl) (t : Sup) (v a b w y : Int) : Prop := L.1 = L.1 ∧ (∀ (i : Nat), i < L.1 → rE ((L.f i).sv.den) ∧ True ∧ True ∧ True ∧ True ∧ True ∧ True) ∧ v = v ∧ a = a ∧ b = b ∧ y = y ∧ rE (0 : Nat) ∧ rE (0 : Nat) ∧ rE (ctX L v a b) ∧ w.tmod (↑L.1 : Int) = (↑(kX L w) : Int) ∧ rE (0 : Nat) ∧ (0 : Nat) + L.1 = L.1 ∧ rE (0 : Nat) ∧ (0 : Nat) + ((↑L.1 : Int) - w.tmod (↑L.1 : Int)).toNat + (w.tmod (↑L.1 : Int) - (0 : Int)).toNat = L.1 ∧ t.1 = t.1 ∧ t.2 = t.2 ∧ t.3 = t.3 ∧ t.4 = t.4 ∧ t.5 = t.5 ∧ L.1 = (0 : Nat) + L.1 ∧ (∀ (i : Nat), i < L.1 → rE (5 : Nat) ∧ (if i < (0 : Nat) then (0 : Int) else (L.f (i - (0 : Nat))).1) = (L.f i).1 ∧ (if i < (0 : Nat) then (0 : Int) else (L.f (i - (0 : Nat))).2) = (L.f i).2 ∧ (if i < (0 : Nat) then (0 : Int) else (L.f (i - (0 : Nat))).3) = (L.f i).3 ∧ (if i < (0 : Nat) then (0 : Int) else (L.f (i - (0 : Nat))).4) = (L.f i).4 ∧ (if i < (0 : Nat) then (0 : Int) else (L.f (i - (0 : Nat))).5) = (L.f i).5 ∧ True) ∧ L.1 = (0 : Nat) + ((↑L.1 : Int) - w.tmod (↑L.1 : Int)).toNat + (w.tmod (↑L.1 : Int) - (0 : Int)).toNat ∧ (∀ (i : Nat), i < L.1 → rE (5 : Nat) ∧ (if i < (0 : Nat) + ((↑L.1 : Int) - w.tmod (↑L.1 : Int)).toNat then if i < (0 : Nat) then (0 : Int) else (L.f ((w.tmod (↑L.n : Int)).toNat + (i - (0 : Nat)))).1 else (L.f (Int.toNat (0 : Int) + (i - ((0 : Nat) + ((↑L.n : Int) - w.tmod (↑L.n : Int)).toNat)))).1) = ((rotL L (kX L w)).f i).1 ∧ (if i < (0 : Nat) + ((↑L.1 : Int) - w.tmod (↑L.1 : Int)).toNat then if i < (0 : Nat) then (0 : Int) else (L.f ((w.tmod (↑L.n : Int)).toNat + (i - (0 : Nat)))).2 else (L.f (Int.toNat (0 : Int) + (i - ((0 : Nat) + ((↑L.n : Int) - w.tmod (↑L.n : Int)).toNat)))).2) = ((rotL L (kX L w)).f i).2 ∧ (if i < (0 : Nat) + ((↑L.1 : Int) - w.tmod (↑L.1 : Int)).toNat then if i < (0 : Nat) then (0 : Int) else (L.f ((w.tmod (↑L.n : Int)).toNat + (i - (0 : Nat)))).3 else (L.f (Int.toNat (0 : Int) + (i - ((0 : Nat) + ((↑L.n : Int) - w.tmod (↑L.n : Int)).toNat)))).3) = ((rotL L (kX L w)).f i).3 ∧ (if i < (0 : Nat) + ((↑L.1 : Int) - w.tmod (↑L.1 : Int)).toNat then if i < (0 : Nat) then (0 : Int) else (L.f ((w.tmod (↑L.n : Int)).toNat + (i - (0 : Nat)))).4 else (L.f (Int.toNat (0 : Int) + (i - ((0 : Nat) + ((↑L.n : Int) - w.tmod (↑L.n : Int)).toNat)))).4) = ((rotL L (kX L w)).f i).4 ∧ (if i < (0 : Nat) + ((↑L.1 : Int) - w.tmod (↑L.1 : Int)).toNat then if i < (0 : Nat) then (0 : Int) else (L.f ((w.tmod (↑L.n : Int)).toNat + (i - (0 : Nat)))).5 else (L.f (Int.toNat (0 : Int) + (i - ((0 : Nat) + ((↑L.n : Int) - w.tmod (↑L.n : Int)).toNat)))).5) = ((rotL L (kX L w)).f i).5 ∧ True) ∧ True
def hmG0 (L : Sl) (t : Sup) (v : Int) (a : Int) (b : Int) (w : Int) (y : Int) : Prop := (True ∧ True ∧ (∀ (i : Nat), i < L.1 → rE true) ∧ rE (0 : Nat) ∧ rE (0 : Nat) ∧ (∀ (i : Nat), rE true) ∧ ((0 : Nat) + L.1) * (40 : Nat) ≤ (140737488355328 : Nat) ∧ (0 : Nat) + L.1 ≤ (4611686018427387904 : Nat) ∧ True ∧ True ∧ (∀ (i : Nat), i < ((↑L.1 : Int) - w.tmod (↑L.1 : Int)).toNat → rE true) ∧ rE (0 : Nat) ∧ rE (0 : Nat) ∧ (∀ (i : Nat), rE true) ∧ ((0 : Nat) + ((↑L.1 : Int) - w.tmod (↑L.1 : Int)).toNat) * (40 : Nat) ≤ (140737488355328 : Nat) ∧ (0 : Nat) + ((↑L.1 : Int) - w.tmod (↑L.1 : Int)).toNat ≤ (4611686018427387904 : Nat) ∧ True ∧ True ∧ (∀ (i : Nat), i < (w.tmod (↑L.1 : Int) - (0 : Int)).toNat → rE true) ∧ rE (0 : Nat) ∧ rE ((0 : Nat) + ((↑L.1 : Int) - w.tmod (↑L.1 : Int)).toNat) ∧ (∀ (i : Nat), rE true) ∧ ((0 : Nat) + ((↑L.1 : Int) - w.tmod (↑L.1 : Int)).toNat + (w.tmod (↑L.1 : Int) - (0 : Int)).toNat) * (40 : Nat) ≤ (140737488355328 : Nat) ∧ (0 : Nat) + ((↑L.1 : Int) - w.tmod (↑L.1 : Int)).toNat + (w.tmod (↑L.1 : Int) - (0 : Int)).toNat ≤ (4611686018427387904 : Nat) ∧ True ∧ True ∧ True ∧ True ∧ True ∧ lfT1 L t v a b w y)
def hmG1 (L : Sl) (t : Sup) (v : Int) (a : Int) (b : Int) (w : Int) (y : Int) : Prop := (True ∧ True ∧ (∀ (i : Nat), i < L.1 → rE true) ∧ rE (0 : Nat) ∧ rE (0 : Nat) ∧ (∀ (i : Nat), rE true) ∧ ((0 : Nat) + L.1) * (40 : Nat) ≤ (140737488355328 : Nat) ∧ (0 : Nat) + L.1 ≤ (4611686018427387904 : Nat) ∧ (True ∧ True ∧ (∀ (i : Nat), i < ((↑L.1 : Int) - w.tmod (↑L.1 : Int)).toNat → rE true) ∧ rE (0 : Nat) ∧ rE (0 : Nat) ∧ (∀ (i : Nat), rE true) ∧ ((0 : Nat) + ((↑L.1 : Int) - w.tmod (↑L.1 : Int)).toNat) * (40 : Nat) ≤ (140737488355328 : Nat) ∧ (0 : Nat) + ((↑L.1 : Int) - w.tmod (↑L.1 : Int)).toNat ≤ (4611686018427387904 : Nat) ∧ True ∧ True ∧ (0 : Int) ≤ (0 : Int) ∧ (0 : Int) ≤ w.tmod (↑L.1 : Int) ∧ w.tmod (↑L.1 : Int) ≤ (↑L.1 : Int) ∧ True ∧ True ∧ (∀ (i : Nat), i < (w.tmod (↑L.1 : Int) - (0 : Int)).toNat → rE true) ∧ rE (0 : Nat) ∧ rE ((0 : Nat) + ((↑L.1 : Int) - w.tmod (↑L.1 : Int)).toNat) ∧ (∀ (i : Nat), rE true) ∧ ((0 : Nat) + ((↑L.1 : Int) - w.tmod (↑L.1 : Int)).toNat + (w.tmod (↑L.1 : Int) - (0 : Int)).toNat) * (40 : Nat) ≤ (140737488355328 : Nat) ∧ (0 : Nat) + ((↑L.1 : Int) - w.tmod (↑L.1 : Int)).toNat + (w.tmod (↑L.1 : Int) - (0 : Int)).toNat ≤ (4611686018427387904 : Nat) ∧ True ∧ True ∧ True ∧ True ∧ True ∧ lfT1 L t v a b w y) ∧ (True ∧ True ∧ (0 : Int) ≤ (0 : Int) ∧ (0 : Int) ≤ w.tmod (↑L.1 : Int) ∧ w.tmod (↑L.1 : Int) ≤ (↑L.1 : Int) ∧ True ∧ True ∧ (∀ (i : Nat), i < ((↑L.1 : Int) - w.tmod (↑L.1 : Int)).toNat → rE true) ∧ rE (0 : Nat) ∧ rE (0 : Nat) ∧ (∀ (i : Nat), rE true) ∧ ((0 : Nat) + ((↑L.1 : Int) - w.tmod (↑L.1 : Int)).toNat) * (40 : Nat) ≤ (140737488355328 : Nat) ∧ (0 : Nat) + ((↑L.1 : Int) - w.tmod (↑L.1 : Int)).toNat ≤ (4611686018427387904 : Nat) ∧ True ∧ True ∧ (∀ (i : Nat), i < (w.tmod (↑L.1 : Int) - (0 : Int)).toNat → rE true) ∧ rE (0 : Nat) ∧ rE ((0 : Nat) + ((↑L.1 : Int) - w.tmod (↑L.1 : Int)).toNat) ∧ (∀ (i : Nat), rE true) ∧ ((0 : Nat) + ((↑L.1 : Int) - w.tmod (↑L.1 : Int)).toNat + (w.tmod (↑L.1 : Int) - (0 : Int)).toNat) * (40 : Nat) ≤ (140737488355328 : Nat) ∧ (0 : Nat) + ((↑L.1 : Int) - w.tmod (↑L.1 : Int)).toNat + (w.tmod (↑L.1 : Int) - (0 : Int)).toNat ≤ (4611686018427387904 : Nat) ∧ True ∧ True ∧ True ∧ True ∧ True ∧ lfT1 L t v a b w y) ∧ True)
def hmG2 (L : Sl) (t : Sup) (v : Int) (a : Int) (b : Int) (w : Int) (y : Int) : Prop := (True ∧ True ∧ (0 : Int) ≤ w.tmod (↑L.1 : Int) ∧ w.tmod (↑L.1 : Int) ≤ (↑L.1 : Int) ∧ (↑L.1 : Int) ≤ (↑L.1 : Int) ∧ True ∧ True ∧ (∀ (i : Nat), i < ((↑L.1 : Int) - w.tmod (↑L.1 : Int)).toNat → rE true) ∧ rE (0 : Nat) ∧ rE (0 : Nat) ∧ (∀ (i : Nat), rE true) ∧ ((0 : Nat) + ((↑L.1 : Int) - w.tmod (↑L.1 : Int)).toNat) * (40 : Nat) ≤ (140737488355328 : Nat) ∧ (0 : Nat) + ((↑L.1 : Int) - w.tmod (↑L.1 : Int)).toNat ≤ (4611686018427387904 : Nat) ∧ True ∧ True ∧ (∀ (i : Nat), i < (w.tmod (↑L.1 : Int) - (0 : Int)).toNat → rE true) ∧ rE (0 : Nat) ∧ rE ((0 : Nat) + ((↑L.1 : Int) - w.tmod (↑L.1 : Int)).toNat) ∧ (∀ (i : Nat), rE true) ∧ ((0 : Nat) + ((↑L.1 : Int) - w.tmod (↑L.1 : Int)).toNat + (w.tmod (↑L.1 : Int) - (0 : Int)).toNat) * (40 : Nat) ≤ (140737488355328 : Nat) ∧ (0 : Nat) + ((↑L.1 : Int) - w.tmod (↑L.1 : Int)).toNat + (w.tmod (↑L.1 : Int) - (0 : Int)).toNat ≤ (4611686018427387904 : Nat) ∧ True ∧ True ∧ True ∧ True ∧ True ∧ lfT1 L t v a b w y)
def hmG3 (L : Sl) (t : Sup) (v : Int) (a : Int) (b : Int) (w : Int) (y : Int) : Prop := (True ∧ True ∧ True ∧ True ∧ (∀ (i : Nat), i < ((↑L.1 : Int) - w.tmod (↑L.1 : Int)).toNat → rE true) ∧ rE (0 : Nat) ∧ rE (0 : Nat) ∧ (∀ (i : Nat), rE true) ∧ ((0 : Nat) + ((↑L.1 : Int) - w.tmod (↑L.1 : Int)).toNat) * (40 : Nat) ≤ (140737488355328 : Nat) ∧ (0 : Nat) + ((↑L.1 : Int) - w.tmod (↑L.1 : Int)).toNat ≤ (4611686018427387904 : Nat) ∧ True ∧ True ∧ (∀ (i : Nat), i < (w.tmod (↑L.1 : Int) - (0 : Int)).toNat → rE true) ∧ rE (0 : Nat) ∧ rE ((0 : Nat) + ((↑L.1 : Int) - w.tmod (↑L.1 : Int)).toNat) ∧ (∀ (i : Nat), rE true) ∧ ((0 : Nat) + ((↑L.1 : Int) - w.tmod (↑L.1 : Int)).toNat + (w.tmod (↑L.1 : Int) - (0 : Int)).toNat) * (40 : Nat) ≤ (140737488355328 : Nat) ∧ (0 : Nat) + ((↑L.1 : Int) - w.tmod (↑L.1 : Int)).toNat + (w.tmod (↑L.1 : Int) - (0 : Int)).toNat ≤ (4611686018427387904 : Nat) ∧ True ∧ True ∧ True ∧ True ∧ True ∧ lfT1 L t v a b w y)
def hmG4 (L : Sl) (t : Sup) (v : Int) (a : Int) (b : Int) (w : Int) (y : Int) : Prop := (True ∧ True ∧ (∀ (i : Nat), i < ((↑L.1 : Int) - w.tmod (↑L.1 : Int)).toNat → rE true) ∧ rE (0 : Nat) ∧ rE (0 : Nat) ∧ (∀ (i : Nat), rE true) ∧ ((0 : Nat) + ((↑L.1 : Int) - w.tmod (↑L.1 : Int)).toNat) * (40 : Nat) ≤ (140737488355328 : Nat) ∧ (0 : Nat) + ((↑L.1 : Int) - w.tmod (↑L.1 : Int)).toNat ≤ (4611686018427387904 : Nat) ∧ True ∧ True ∧ (0 : Int) ≤ (0 : Int) ∧ (0 : Int) ≤ w.tmod (↑L.1 : Int) ∧ w.tmod (↑L.1 : Int) ≤ (↑L.1 : Int) ∧ True ∧ True ∧ (∀ (i : Nat), i < (w.tmod (↑L.1 : Int) - (0 : Int)).toNat → rE true) ∧ rE (0 : Nat) ∧ rE ((0 : Nat) + ((↑L.1 : Int) - w.tmod (↑L.1 : Int)).toNat) ∧ (∀ (i : Nat), rE true) ∧ ((0 : Nat) + ((↑L.1 : Int) - w.tmod (↑L.1 : Int)).toNat + (w.tmod (↑L.1 : Int) - (0 : Int)).toNat) * (40 : Nat) ≤ (140737488355328 : Nat) ∧ (0 : Nat) + ((↑L.1 : Int) - w.tmod (↑L.1 : Int)).toNat + (w.tmod (↑L.1 : Int) - (0 : Int)).toNat ≤ (4611686018427387904 : Nat) ∧ True ∧ True ∧ True ∧ True ∧ True ∧ lfT1 L t v a b w y)
def hmG5 (L : Sl) (t : Sup) (v : Int) (a : Int) (b : Int) (w : Int) (y : Int) : Prop := (True ∧ True ∧ (0 : Int) ≤ (0 : Int) ∧ (0 : Int) ≤ w.tmod (↑L.1 : Int) ∧ w.tmod (↑L.1 : Int) ≤ (↑L.1 : Int) ∧ True ∧ True ∧ (∀ (i : Nat), i < ((↑L.1 : Int) - w.tmod (↑L.1 : Int)).toNat → rE true) ∧ rE (0 : Nat) ∧ rE (0 : Nat) ∧ (∀ (i : Nat), rE true) ∧ ((0 : Nat) + ((↑L.1 : Int) - w.tmod (↑L.1 : Int)).toNat) * (40 : Nat) ≤ (140737488355328 : Nat) ∧ (0 : Nat) + ((↑L.1 : Int) - w.tmod (↑L.1 : Int)).toNat ≤ (4611686018427387904 : Nat) ∧ True ∧ True ∧ (∀ (i : Nat), i < (w.tmod (↑L.1 : Int) - (0 : Int)).toNat → rE true) ∧ rE (0 : Nat) ∧ rE ((0 : Nat) + ((↑L.1 : Int) - w.tmod (↑L.1 : Int)).toNat) ∧ (∀ (i : Nat), rE true) ∧ ((0 : Nat) + ((↑L.1 : Int) - w.tmod (↑L.1 : Int)).toNat + (w.tmod (↑L.1 : Int) - (0 : Int)).toNat) * (40 : Nat) ≤ (140737488355328 : Nat) ∧ (0 : Nat) + ((↑L.1 : Int) - w.tmod (↑L.1 : Int)).toNat + (w.tmod (↑L.1 : Int) - (0 : Int)).toNat ≤ (4611686018427387904 : Nat) ∧ True ∧ True ∧ True ∧ True ∧ True ∧ lfT1 L t v a b w y)
def hmG6 (L : Sl) (t : Sup) (v : Int) (a : Int) (b : Int) (w : Int) (y : Int) : Prop := (True ∧ True ∧ (True ∧ True ∧ (∀ (i : Nat), i < L.1 → rE true) ∧ rE (0 : Nat) ∧ rE (0 : Nat) ∧ (∀ (i : Nat), rE true) ∧ ((0 : Nat) + L.1) * (40 : Nat) ≤ (140737488355328 : Nat) ∧ (0 : Nat) + L.1 ≤ (4611686018427387904 : Nat) ∧ (True ∧ True ∧ (0 : Int) ≤ w.tmod (↑L.1 : Int) ∧ w.tmod (↑L.1 : Int) ≤ (↑L.1 : Int) ∧ (↑L.1 : Int) ≤ (↑L.1 : Int) ∧ (hmG4 L t v a b w y) ∧ (hmG5 L t v a b w y) ∧ True) ∧ (True ∧ True ∧ (0 : Int) ≤ (0 : Int) ∧ (0 : Int) ≤ w.tmod (↑L.1 : Int) ∧ w.tmod (↑L.1 : Int) ≤ (↑L.1 : Int) ∧ (hmG2 L t v a b w y) ∧ True) ∧ True) ∧ (True ∧ True ∧ (0 : Int) ≤ w.tmod (↑L.1 : Int) ∧ w.tmod (↑L.1 : Int) ≤ (↑L.1 : Int) ∧ (↑L.1 : Int) ≤ (↑L.1 : Int) ∧ (hmG1 L t v a b w y) ∧ (True ∧ True ∧ (0 : Int) ≤ (0 : Int) ∧ (0 : Int) ≤ w.tmod (↑L.1 : Int) ∧ w.tmod (↑L.1 : Int) ≤ (↑L.1 : Int) ∧ (hmG0 L t v a b w y) ∧ True) ∧ True) ∧ (True ∧ True ∧ (0 : Int) ≤ (0 : Int) ∧ (0 : Int) ≤ w.tmod (↑L.1 : Int) ∧ w.tmod (↑L.1 : Int) ≤ (↑L.1 : Int) ∧ (True ∧ True ∧ (∀ (i : Nat), i < L.1 → rE true) ∧ rE (0 : Nat) ∧ rE (0 : Nat) ∧ (∀ (i : Nat), rE true) ∧ ((0 : Nat) + L.1) * (40 : Nat) ≤ (140737488355328 : Nat) ∧ (0 : Nat) + L.1 ≤ (4611686018427387904 : Nat) ∧ (hmG2 L t v a b w y) ∧ True) ∧ (True ∧ True ∧ (0 : Int) ≤ w.tmod (↑L.1 : Int) ∧ w.tmod (↑L.1 : Int) ≤ (↑L.1 : Int) ∧ (↑L.1 : Int) ≤ (↑L.1 : Int) ∧ (hmG0 L t v a b w y) ∧ True) ∧ True) ∧ True)
def hmG7 (L : Sl) (t : Sup) (v : Int) (a : Int) (b : Int) (w : Int) (y : Int) : Prop := (True ∧ True ∧ (True ∧ True ∧ (∀ (i : Nat), i < L.1 → rE true) ∧ rE (0 : Nat) ∧ rE (0 : Nat) ∧ (∀ (i : Nat), rE true) ∧ ((0 : Nat) + L.1) * (40 : Nat) ≤ (140737488355328 : Nat) ∧ (0 : Nat) + L.1 ≤ (4611686018427387904 : Nat) ∧ (hmG2 L t v a b w y) ∧ True) ∧ (True ∧ True ∧ (0 : Int) ≤ w.tmod (↑L.1 : Int) ∧ w.tmod (↑L.1 : Int) ≤ (↑L.1 : Int) ∧ (↑L.1 : Int) ≤ (↑L.1 : Int) ∧ (hmG0 L t v a b w y) ∧ True) ∧ True)
def hmG8 (L : Sl) (t : Sup) (v : Int) (a : Int) (b : Int) (w : Int) (y : Int) : Prop := (True ∧ True ∧ (∀ (i : Nat), i < L.1 → rE true) ∧ rE (0 : Nat) ∧ rE (0 : Nat) ∧ (∀ (i : Nat), rE true) ∧ ((0 : Nat) + L.1) * (40 : Nat) ≤ (140737488355328 : Nat) ∧ (0 : Nat) + L.1 ≤ (4611686018427387904 : Nat) ∧ (hmG3 L t v a b w y) ∧ True)
def hmG9 (L : Sl) (t : Sup) (v : Int) (a : Int) (b : Int) : Prop := (erX (morL L t) v a b = (1 : Int) → (0 : Nat) < (1 : Nat) ∧ True ∧ (∀ (i : Nat), i < (1 : Nat) → True ∧ True ∧ True ∧ True ∧ True ∧ True) ∧ SV.lst (5 : Nat) (1 : Nat) (chainF [SV.agg [SV.int IntKind.i64 t.lo, SV.int IntKind.i64 t.hi, SV.int IntKind.i64 t.v, SV.int IntKind.i64 t.mo, SV.int IntKind.i64 t.pay]]) = (slOf (1 : Nat) (chainF [SV.agg [SV.int IntKind.i64 t.lo, SV.int IntKind.i64 t.hi, SV.int IntKind.i64 t.v, SV.int IntKind.i64 t.mo, SV.int IntKind.i64 t.pay]])).sv ∧ (1 : Nat) ≤ (1000 : Nat) ∧ (¬okSl (slOf (1 : Nat) (chainF [SV.agg [SV.int IntKind.i64 t.lo, SV.int IntKind.i64 t.hi, SV.int IntKind.i64 t.v, SV.int IntKind.i64 t.mo, SV.int IntKind.i64 t.pay]])) → rE true ∧ True) ∧ (¬¬okSl (slOf (1 : Nat) (chainF [SV.agg [SV.int IntKind.i64 t.lo, SV.int IntKind.i64 t.hi, SV.int IntKind.i64 t.v, SV.int IntKind.i64 t.mo, SV.int IntKind.i64 t.pay]])) → false = true ∧ True))
def hmG10 (L : Sl) (t : Sup) (v : Int) (a : Int) (b : Int) (w : Int) (y : Int) : Prop := (True ∧ True ∧ (hmG1 L t v a b w y) ∧ (True ∧ True ∧ (0 : Int) ≤ (0 : Int) ∧ (0 : Int) ≤ w.tmod (↑L.1 : Int) ∧ w.tmod (↑L.1 : Int) ≤ (↑L.1 : Int) ∧ (hmG0 L t v a b w y) ∧ True) ∧ True)
def hmG11 (L : Sl) (t : Sup) (v : Int) (a : Int) (b : Int) (w : Int) (y : Int) : Prop := (True ∧ True ∧ (∀ (i : Nat), i < L.1 → rE true) ∧ rE (0 : Nat) ∧ rE (0 : Nat) ∧ (∀ (i : Nat), rE true) ∧ ((0 : Nat) + L.1) * (40 : Nat) ≤ (140737488355328 : Nat) ∧ (0 : Nat) + L.1 ≤ (4611686018427387904 : Nat) ∧ (True ∧ True ∧ (hmG4 L t v a b w y) ∧ (hmG5 L t v a b w y) ∧ True) ∧ (True ∧ True ∧ (0 : Int) ≤ (0 : Int) ∧ (0 : Int) ≤ w.tmod (↑L.1 : Int) ∧ w.tmod (↑L.1 : Int) ≤ (↑L.1 : Int) ∧ (hmG3 L t v a b w y) ∧ True) ∧ True)
def hmG12 (L : Sl) (t : Sup) (v : Int) (a : Int) (b : Int) (w : Int) (y : Int) : Prop := (True ∧ True ∧ (∀ (i : Nat), i < L.1 → rE true) ∧ rE (0 : Nat) ∧ rE (0 : Nat) ∧ (∀ (i : Nat), rE true) ∧ ((0 : Nat) + L.1) * (40 : Nat) ≤ (140737488355328 : Nat) ∧ (0 : Nat) + L.1 ≤ (4611686018427387904 : Nat) ∧ (True ∧ True ∧ (hmG2 L t v a b w y) ∧ True) ∧ (True ∧ True ∧ (0 : Int) ≤ w.tmod (↑L.1 : Int) ∧ w.tmod (↑L.1 : Int) ≤ (↑L.1 : Int) ∧ (↑L.1 : Int) ≤ (↑L.1 : Int) ∧ (hmG3 L t v a b w y) ∧ True) ∧ True)
theorem hmG_vc (L : Sl) (t : Sup) (v : Int) (a : Int) (b : Int) (w : Int) (y : Int) : hmG L t v a b w y = (((4 : Int) ≤ (↑L.1 : Int) → rE true ∧ True) ∧ (¬(4 : Int) ≤ (↑L.1 : Int) → ((↑L.1 : Int) = (0 : Int) → rE true ∧ True) ∧ (¬(↑L.1 : Int) = (0 : Int) → (∀ (i : Nat), i < L.1 → True ∧ True ∧ True ∧ True ∧ True ∧ True) ∧ rE L.sv ∧ L.1 ≤ (1000 : Nat) ∧ (¬erX L v a b = (0 : Int) → ((↑(if erX L v a b = (0 : Int) then L.1 else (0 : Nat)) : Int) = (0 : Int) → (ctX L v a b = (0 : Int) → rE true ∧ True) ∧ (¬ctX L v a b = (0 : Int) → false = true ∧ True)) ∧ (¬(↑(if erX L v a b = (0 : Int) then L.1 else (0 : Nat)) : Int) = (0 : Int) → false = true ∧ True)) ∧ (¬¬erX L v a b = (0 : Int) → rI (w) ∧ ((↑L.1 : Int) = (0 : Int) → False) ∧ (True ∧ True ∧ True ∧ True ∧ True ∧ True ∧ True ∧ True ∧ True ∧ True ∧ (True ∧ True ∧ (True ∧ True ∧ (∀ (i : Nat), i < L.1 → rE true) ∧ rE (0 : Nat) ∧ rE (0 : Nat) ∧ (∀ (i : Nat), rE true) ∧ ((0 : Nat) + L.1) * (40 : Nat) ≤ (140737488355328 : Nat) ∧ (0 : Nat) + L.1 ≤
 (4611686018427387904 : Nat) ∧ (True ∧ True ∧ (True ∧ True ∧ (0 : Int) ≤ w.tmod (↑L.1 : Int) ∧ w.tmod (↑L.1 : Int) ≤ (↑L.1 : Int) ∧ (↑L.1 : Int) ≤ (↑L.1 : Int) ∧ (hmG4 L t v a b w y) ∧ (hmG5 L t v a b w y) ∧ True) ∧ (True ∧ True ∧ (0 : Int) ≤ (0 : Int) ∧ (0 : Int) ≤ w.tmod (↑L.1 : Int) ∧ w.tmod (↑L.1 : Int) ≤ (↑L.1 : Int) ∧ (hmG2 L t v a b w y) ∧ True) ∧ True) ∧ (True ∧ True ∧ (0 : Int) ≤ w.tmod (↑L.1 : Int) ∧ w.tmod (↑L.1 : Int) ≤ (↑L.1 : Int) ∧ (↑L.1 : Int) ≤ (↑L.1 : Int) ∧ (True ∧ True ∧ (hmG4 L t v a b w y) ∧ (hmG5 L t v a b w y) ∧ True) ∧ (True ∧ True ∧ (0 : Int) ≤ (0 : Int) ∧ (0 : Int) ≤ w.tmod (↑L.1 : Int) ∧ w.tmod (↑L.1 : Int) ≤ (↑L.1 : Int) ∧ (hmG3 L t v a b w y) ∧ True) ∧ True) ∧ (True ∧ True ∧ (0 : Int) ≤ (0 : Int) ∧ (0 : Int) ≤ w.tmod (↑L.1 : Int) ∧ w.tmod (↑L.1 : Int) ≤ (↑L.1 : Int) ∧ (True ∧ True ∧ (hmG2 L t v a b w y) ∧ True) ∧ (True ∧ True ∧ (0 : Int) ≤ w.tmod (↑L.1 :
 Int) ∧ w.tmod (↑L.1 : Int) ≤ (↑L.1 : Int) ∧ (↑L.1 : Int) ≤ (↑L.1 : Int) ∧ (hmG3 L t v a b w y) ∧ True) ∧ True) ∧ True) ∧ (hmG6 L t v a b w y) ∧ (True ∧ True ∧ (0 : Int) ≤ w.tmod (↑L.1 : Int) ∧ w.tmod (↑L.1 : Int) ≤ (↑L.1 : Int) ∧ (↑L.1 : Int) ≤ (↑L.1 : Int) ∧ (hmG11 L t v a b w y) ∧ (hmG10 L t v a b w y) ∧ (True ∧ True ∧ (0 : Int) ≤ (0 : Int) ∧ (0 : Int) ≤ w.tmod (↑L.1 : Int) ∧ w.tmod (↑L.1 : Int) ≤ (↑L.1 : Int) ∧ (hmG8 L t v a b w y) ∧ (True ∧ True ∧ (hmG0 L t v a b w y) ∧ True) ∧ True) ∧ True) ∧ (True ∧ True ∧ (0 : Int) ≤ (0 : Int) ∧ (0 : Int) ≤ w.tmod (↑L.1 : Int) ∧ w.tmod (↑L.1 : Int) ≤ (↑L.1 : Int) ∧ (hmG12 L t v a b w y) ∧ (hmG7 L t v a b w y) ∧ (True ∧ True ∧ (0 : Int) ≤ w.tmod (↑L.1 : Int) ∧ w.tmod (↑L.1 : Int) ≤ (↑L.1 : Int) ∧ (↑L.1 : Int) ≤ (↑L.1 : Int) ∧ (hmG8 L t v a b w y) ∧ (True ∧ True ∧ (hmG0 L t v a b w y) ∧ True) ∧ True) ∧ True) ∧ True) ∧ (True ∧ True ∧ (hmG6 L t v a b
 w y) ∧ (True ∧ True ∧ (0 : Int) ≤ w.tmod (↑L.1 : Int) ∧ w.tmod (↑L.1 : Int) ≤ (↑L.1 : Int) ∧ (↑L.1 : Int) ≤ (↑L.1 : Int) ∧ (hmG10 L t v a b w y) ∧ (True ∧ True ∧ (0 : Int) ≤ (0 : Int) ∧ (0 : Int) ≤ w.tmod (↑L.1 : Int) ∧ w.tmod (↑L.1 : Int) ≤ (↑L.1 : Int) ∧ (True ∧ True ∧ (hmG0 L t v a b w y) ∧ True) ∧ True) ∧ True) ∧ (True ∧ True ∧ (0 : Int) ≤ (0 : Int) ∧ (0 : Int) ≤ w.tmod (↑L.1 : Int) ∧ w.tmod (↑L.1 : Int) ≤ (↑L.1 : Int) ∧ (hmG7 L t v a b w y) ∧ (True ∧ True ∧ (0 : Int) ≤ w.tmod (↑L.1 : Int) ∧ w.tmod (↑L.1 : Int) ≤ (↑L.1 : Int) ∧ (↑L.1 : Int) ≤ (↑L.1 : Int) ∧ (True ∧ True ∧ (hmG0 L t v a b w y) ∧ True) ∧ True) ∧ True) ∧ True) ∧ (True ∧ True ∧ (0 : Int) ≤ w.tmod (↑L.1 : Int) ∧ w.tmod (↑L.1 : Int) ≤ (↑L.1 : Int) ∧ (↑L.1 : Int) ≤ (↑L.1 : Int) ∧ (True ∧ True ∧ (hmG11 L t v a b w y) ∧ (hmG10 L t v a b w y) ∧ (True ∧ True ∧ (0 : Int) ≤ (0 : Int) ∧ (0 : Int) ≤ w.tmod (↑L.1 : Int) ∧ w.tmod
 (↑L.1 : Int) ≤ (↑L.1 : Int) ∧ (hmG8 L t v a b w y) ∧ (True ∧ True ∧ (hmG0 L t v a b w y) ∧ True) ∧ True) ∧ True) ∧ (True ∧ True ∧ (hmG10 L t v a b w y) ∧ (True ∧ True ∧ (0 : Int) ≤ (0 : Int) ∧ (0 : Int) ≤ w.tmod (↑L.1 : Int) ∧ w.tmod (↑L.1 : Int) ≤ (↑L.1 : Int) ∧ (True ∧ True ∧ (hmG0 L t v a b w y) ∧ True) ∧ True) ∧ True) ∧ (True ∧ True ∧ (0 : Int) ≤ (0 : Int) ∧ (0 : Int) ≤ w.tmod (↑L.1 : Int) ∧ w.tmod (↑L.1 : Int) ≤ (↑L.1 : Int) ∧ (True ∧ True ∧ (hmG8 L t v a b w y) ∧ (True ∧ True ∧ (hmG0 L t v a b w y) ∧ True) ∧ True) ∧ (True ∧ True ∧ (True ∧ True ∧ (hmG0 L t v a b w y) ∧ True) ∧ True) ∧ True) ∧ True) ∧ (True ∧ True ∧ (0 : Int) ≤ (0 : Int) ∧ (0 : Int) ≤ w.tmod (↑L.1 : Int) ∧ w.tmod (↑L.1 : Int) ≤ (↑L.1 : Int) ∧ (True ∧ True ∧ (hmG12 L t v a b w y) ∧ (hmG7 L t v a b w y) ∧ (True ∧ True ∧ (0 : Int) ≤ w.tmod (↑L.1 : Int) ∧ w.tmod (↑L.1 : Int) ≤ (↑L.1 : Int) ∧ (↑L.1 : Int) ≤ (↑L.1 : Int)
 ∧ (hmG8 L t v a b w y) ∧ (True ∧ True ∧ (hmG0 L t v a b w y) ∧ True) ∧ True) ∧ True) ∧ (True ∧ True ∧ (hmG7 L t v a b w y) ∧ (True ∧ True ∧ (0 : Int) ≤ w.tmod (↑L.1 : Int) ∧ w.tmod (↑L.1 : Int) ≤ (↑L.1 : Int) ∧ (↑L.1 : Int) ≤ (↑L.1 : Int) ∧ (True ∧ True ∧ (hmG0 L t v a b w y) ∧ True) ∧ True) ∧ True) ∧ (True ∧ True ∧ (0 : Int) ≤ w.tmod (↑L.1 : Int) ∧ w.tmod (↑L.1 : Int) ≤ (↑L.1 : Int) ∧ (↑L.1 : Int) ≤ (↑L.1 : Int) ∧ (True ∧ True ∧ (hmG8 L t v a b w y) ∧ (True ∧ True ∧ (hmG0 L t v a b w y) ∧ True) ∧ True) ∧ (True ∧ True ∧ (True ∧ True ∧ (hmG0 L t v a b w y) ∧ True) ∧ True) ∧ True) ∧ True) ∧ True) ∧ ∀ (z : Unit), True → (0 : Int) ≤ (↑(kX L w) : Int) ∧ (↑(kX L w) : Int) < (↑L.1 : Int) ∧ (0 : Nat) + (↑(kX L w) : Int).toNat < L.1 ∧ rI (y) ∧ ((5 : Int) = (0 : Int) → False) ∧ rI ((L.f ((0 : Nat) + (↑(kX L w) : Int).toNat)).4 + y.tmod (5 : Int)) ∧ (0 : Int) ≤ (↑(kX L w) : Int) ∧ (↑(kX L w) :
 Int) < (↑L.1 : Int) ∧ (3 : Nat) + (1 : Nat) ≤ (5 : Nat) ∧ (0 : Nat) + (↑(kX L w) : Int).toNat < L.1 ∧ (∀ (i' : Nat), rE true) ∧ (0 : Nat) + L.1 ≤ L.1 ∧ (∀ (i : Nat), i < L.1 → rE (5 : Nat) ∧ True ∧ True ∧ True ∧ True ∧ True ∧ True) ∧ (SV.lst (5 : Nat) L.n fun i => putR (fun i => (L.f i).sv) ((0 : Nat) + (↑(kX L w) : Int).toNat) (Nat.succ (2 : Nat)) (SV.int IntKind.i64 (min (20 : Int) ((L.f ((0 : Nat) + (↑(kX L w) : Int).toNat)).mo + y.tmod (5 : Int)))) (i + (0 : Nat))) = (slOf L.n fun i => putR (fun i => (L.f i).sv) ((0 : Nat) + (↑(kX L w) : Int).toNat) (Nat.succ (2 : Nat)) (SV.int IntKind.i64 (min (20 : Int) ((L.f ((0 : Nat) + (↑(kX L w) : Int).toNat)).mo + y.tmod (5 : Int)))) (i + (0 : Nat))).sv ∧ L.1 ≤ (1000 : Nat) ∧ (True ∧ True ∧ True ∧ True ∧ (0 : Nat) < (1 : Nat) ∧ True ∧ True ∧ True ∧ True ∧ True ∧ True ∧ True ∧ True ∧ True ∧ (True ∧ True ∧ (True ∧ True ∧ (∀ (i : Nat), i < L.1 →
 rE true) ∧ rE (0 : Nat) ∧ rE (0 : Nat) ∧ (∀ (i : Nat), rE true) ∧ ((0 : Nat) + L.1) * (40 : Nat) ≤ (140737488355328 : Nat) ∧ (0 : Nat) + L.1 ≤ (4611686018427387904 : Nat) ∧ True ∧ True ∧ (∀ (i : Nat), i < (1 : Nat) → rE true) ∧ rE (0 : Nat) ∧ rE ((0 : Nat) + L.1) ∧ (∀ (i : Nat), rE true) ∧ ((0 : Nat) + L.1 + (1 : Nat)) * (40 : Nat) ≤ (140737488355328 : Nat) ∧ (0 : Nat) + L.1 + (1 : Nat) ≤ (4611686018427387904 : Nat) ∧ True ∧ True ∧ (0 : Nat) + ((0 : Nat) + L.1 + (1 : Nat)) ≤ (0 : Nat) + L.1 + (1 : Nat) ∧ (∀ (i : Nat), i < (0 : Nat) + L.1 + (1 : Nat) → rE (5 : Nat) ∧ True ∧ True ∧ True ∧ True ∧ True ∧ True) ∧ (SV.lst (5 : Nat) ((0 : Nat) + L.n + (1 : Nat)) fun i => (rowsK (Try.prog.cellsOf (28 : Nat)) ((0 : Nat) + L.n + (1 : Nat)) (appF ((0 : Nat) + L.n) (rowsK (Try.prog.cellsOf (28 : Nat)) ((0 : Nat) + L.n) (appF (0 : Nat) (rowsK (Try.prog.cellsOf (28 : Nat)) (0 : Nat) fun x => ofS
 (Value.agg #[Value.int IntKind.i64 (0 : Int), Value.int IntKind.i64 (0 : Int), Value.int IntKind.i64 (0 : Int), Value.int IntKind.i64 (0 : Int), Value.int IntKind.i64 (0 : Int)])).f fun i => (L.f i).sv)).f (chainF [SV.agg [i6 t.lo, i6 t.hi, i6 t.v, i6 t.mo, i6 t.pay]]))).f (i + (0 : Nat))) = (slOf ((0 : Nat) + L.n + (1 : Nat)) fun i => (rowsK (Try.prog.cellsOf (28 : Nat)) ((0 : Nat) + L.n + (1 : Nat)) (appF ((0 : Nat) + L.n) (rowsK (Try.prog.cellsOf (28 : Nat)) ((0 : Nat) + L.n) (appF (0 : Nat) (rowsK (Try.prog.cellsOf (28 : Nat)) (0 : Nat) fun x => ofS (Value.agg #[Value.int IntKind.i64 (0 : Int), Value.int IntKind.i64 (0 : Int), Value.int IntKind.i64 (0 : Int), Value.int IntKind.i64 (0 : Int), Value.int IntKind.i64 (0 : Int)])).f fun i => (L.f i).sv)).f (chainF [SV.agg [i6 t.lo, i6 t.hi, i6 t.v, i6 t.mo, i6 t.pay]]))).f (i + (0 : Nat))).sv ∧ (0 : Nat) + L.1 + (1 : Nat) ≤ (1000 : Nat)
 ∧ True ∧ True ∧ True ∧ True ∧ True ∧ True ∧ True ∧ True ∧ True ∧ True ∧ True ∧ True ∧ True ∧ True ∧ True ∧ L.1 = L.1 ∧ (∀ (i : Nat), i < L.1 → rE ((L.f i).sv.den) ∧ True ∧ True ∧ True ∧ True ∧ True ∧ True) ∧ v = v ∧ a = a ∧ b = b ∧ y = y ∧ rE (0 : Nat) ∧ rE (0 : Nat) ∧ rE (ctX L v a b) ∧ rE (↑(kX L w) : Int) ∧ rE (0 : Nat) ∧ L.1 = L.1 ∧ ctX (slOf L.n fun i => putR (fun i => (L.f i).sv) ((0 : Nat) + (↑(kX L w) : Int).toNat) (Nat.succ (2 : Nat)) (SV.int IntKind.i64 (min (20 : Int) ((L.f ((0 : Nat) + (↑(kX L w) : Int).toNat)).mo + y.tmod (5 : Int)))) (i + (0 : Nat))) v a b = ctX (ricL L (kX L w) (y.tmod (5 : Int))) v a b ∧ erX (slOf L.n fun i => putR (fun i => (L.f i).sv) ((0 : Nat) + (↑(kX L w) : Int).toNat) (Nat.succ (2 : Nat)) (SV.int IntKind.i64 (min (20 : Int) ((L.f ((0 : Nat) + (↑(kX L w) : Int).toNat)).mo + y.tmod (5 : Int)))) (i + (0 : Nat))) v a b = erX (ricL L (kX L w) (y.tmod (5
 : Int))) v a b ∧ ctX (slOf ((0 : Nat) + L.n + (1 : Nat)) fun i => (rowsK (Try.prog.cellsOf (28 : Nat)) ((0 : Nat) + L.n + (1 : Nat)) (appF ((0 : Nat) + L.n) (rowsK (Try.prog.cellsOf (28 : Nat)) ((0 : Nat) + L.n) (appF (0 : Nat) (rowsK (Try.prog.cellsOf (28 : Nat)) (0 : Nat) fun x => ofS (Value.agg #[Value.int IntKind.i64 (0 : Int), Value.int IntKind.i64 (0 : Int), Value.int IntKind.i64 (0 : Int), Value.int IntKind.i64 (0 : Int), Value.int IntKind.i64 (0 : Int)])).f fun i => (L.f i).sv)).f (chainF [SV.agg [i6 t.lo, i6 t.hi, i6 t.v, i6 t.mo, i6 t.pay]]))).f (i + (0 : Nat))) v a b = ctX (morL L t) v a b ∧ erX (slOf ((0 : Nat) + L.n + (1 : Nat)) fun i => (rowsK (Try.prog.cellsOf (28 : Nat)) ((0 : Nat) + L.n + (1 : Nat)) (appF ((0 : Nat) + L.n) (rowsK (Try.prog.cellsOf (28 : Nat)) ((0 : Nat) + L.n) (appF (0 : Nat) (rowsK (Try.prog.cellsOf (28 : Nat)) (0 : Nat) fun x => ofS (Value.agg
 #[Value.int IntKind.i64 (0 : Int), Value.int IntKind.i64 (0 : Int), Value.int IntKind.i64 (0 : Int), Value.int IntKind.i64 (0 : Int), Value.int IntKind.i64 (0 : Int)])).f fun i => (L.f i).sv)).f (chainF [SV.agg [i6 t.lo, i6 t.hi, i6 t.v, i6 t.mo, i6 t.pay]]))).f (i + (0 : Nat))) v a b = erX (morL L t) v a b ∧ t.1 = t.1 ∧ t.2 = t.2 ∧ t.3 = t.3 ∧ t.4 = t.4 ∧ t.5 = t.5 ∧ L.1 = L.1 ∧ (∀ (i : Nat), i < L.1 → rE (5 : Nat) ∧ rE (((rotL L (kX L w)).f i).1) ∧ rE (((rotL L (kX L w)).f i).2) ∧ rE (((rotL L (kX L w)).f i).3) ∧ rE (((rotL L (kX L w)).f i).4) ∧ rE (((rotL L (kX L w)).f i).5) ∧ True) ∧ True) ∧ True) ∧ True) ∧ ∀ (z : Unit), True → (0 : Nat) + L.1 ≤ L.1 ∧ (∀ (i : Nat), i < L.1 → rE (5 : Nat) ∧ True ∧ True ∧ True ∧ True ∧ True ∧ True) ∧ (SV.lst (5 : Nat) L.n fun i => ((rotL L (kX L w)).f (i + (0 : Nat))).sv) = (slOf L.n fun i => ((rotL L (kX L w)).f (i + (0 : Nat))).sv).sv ∧ L.1 ≤ (1000
 : Nat) ∧ rI (y) ∧ ((5 : Int) = (0 : Int) → False) ∧ rI (a - y.tmod (5 : Int)) ∧ rI (y) ∧ ((7 : Int) = (0 : Int) → False) ∧ rI (b + y.tmod (7 : Int)) ∧ (∀ (i : Nat), i < L.1 → True ∧ True ∧ True ∧ True ∧ True ∧ True) ∧ rE L.sv ∧ L.1 ≤ (1000 : Nat) ∧ (¬erX (ricL L (kX L w) (y.tmod (5 : Int))) v a b = (0 : Int) → false = true ∧ True) ∧ (¬¬erX (ricL L (kX L w) (y.tmod (5 : Int))) v a b = (0 : Int) → (ctX L v a b < ctX (ricL L (kX L w) (y.tmod (5 : Int))) v a b → false = true ∧ True) ∧ (¬ctX L v a b < ctX (ricL L (kX L w) (y.tmod (5 : Int))) v a b → (¬erX (slOf L.n fun i => ((rotL L (kX L w)).f (i + (0 : Nat))).sv) v a b = (0 : Int) → false = true ∧ True) ∧ (¬¬erX (slOf L.n fun i => ((rotL L (kX L w)).f (i + (0 : Nat))).sv) v a b = (0 : Int) → (¬ctX (slOf L.n fun i => ((rotL L (kX L w)).f (i + (0 : Nat))).sv) v a b = ctX L v a b → false = true ∧ True) ∧ (¬¬ctX (slOf L.n fun i => ((rotL L (kX
 L w)).f (i + (0 : Nat))).sv) v a b = ctX L v a b → (¬erX L v (max (0 : Int) (a - y.tmod (5 : Int))) (min (10000 : Int) (b + y.tmod (7 : Int))) = (0 : Int) → false = true ∧ True) ∧ (¬¬erX L v (max (0 : Int) (a - y.tmod (5 : Int))) (min (10000 : Int) (b + y.tmod (7 : Int))) = (0 : Int) → (ctX L v a b < ctX L v (max (0 : Int) (a - y.tmod (5 : Int))) (min (10000 : Int) (b + y.tmod (7 : Int))) → false = true ∧ True) ∧ (¬ctX L v a b < ctX L v (max (0 : Int) (a - y.tmod (5 : Int))) (min (10000 : Int) (b + y.tmod (7 : Int))) → (erX (morL L t) v a b = (0 : Int) → (ctX (morL L t) v a b ≤ ctX L v a b → rE true ∧ True) ∧ (¬ctX (morL L t) v a b ≤ ctX L v a b → (hmG9 L t v a b) ∧ (¬erX (morL L t) v a b = (1 : Int) → false = true ∧ True))) ∧ (¬erX (morL L t) v a b = (0 : Int) → (hmG9 L t v a b) ∧ (¬erX (morL L t) v a b = (1 : Int) → false = true ∧ True)))))))))))) := by kernel_rfl
end Go.Proofs.Ytgidaaogknikoaa 

set_option maxRecDepth 100000
namespace Go.Proofs.Ytgidaaogknikoaa
open Go Go.Lg
attribute [local irreducible] bodyH funS
theorem sup_ext {s t : Sup} (h1 : s.lo = t.lo) (h2 : s.hi = t.hi) (h3 : s.v = t.v) (h4 : s.mo = t.mo) (h5 : s.pay = t.pay) : s = t := by
  cases s; cases t; simp only at h1 h2 h3 h4 h5; subst h1 h2 h3 h4 h5; rfl
theorem ric_e (L : Sl) (k : Nat) (d : Int) : (slOf L.n fun i => putR (fun i => (L.f i).sv) (0 + (k : Int).toNat) (Nat.succ 2) (SV.int IntKind.i64 (min 20 ((L.f (0 + (k : Int).toNat)).mo + d))) (i + 0)) = ricL L k d := by
  rw [Int.toNat_natCast, Nat.zero_add]
  unfold slOf ricL
  congr 1
  funext i
  refine sup_ext ?_ ?_ ?_ ?_ ?_
  · show (if i = k then (L.f i).lo else (L.f i).lo) = _; split <;> rfl
  · show (if i = k then (L.f i).hi else (L.f i).hi) = _; split <;> rfl
  · show (if i = k then (L.f i).v else (L.f i).v) = _; split <;> rfl
  · show (if i = k then min 20 ((L.f k).mo + d) else (L.f i).mo) = if i = k then min 20 ((L.f i).mo + d) else (L.f i).mo
    by_cases h : i = k
    · subst h; rfl
    · rw [if_neg h, if_neg h]
  · show (if i = k then (L.f i).pay else (L.f i).pay) = _; split <;> rfl
theorem ric_s (L : Sl) (k : Nat) (d : Int) : (SV.lst 5 L.n fun i => putR (fun i => (L.f i).sv) (0 + (k : Int).toNat) (Nat.succ 2) (SV.int IntKind.i64 (min 20 ((L.f (0 + (k : Int).toNat)).mo + d))) (i + 0)) = (ricL L k d).sv := by
  rw [← ric_e]; rfl
theorem mor_e (L : Sl) (t : Sup) : (slOf (0 + L.n + 1) fun i => (rowsK (Try.prog.cellsOf 28) (0 + L.n + 1) (appF (0 + L.n) (rowsK (Try.prog.cellsOf 28) (0 + L.n) (appF 0 (rowsK (Try.prog.cellsOf 28) 0 fun x => ofS (Value.agg #[Value.int IntKind.i64 0, Value.int IntKind.i64 0, Value.int IntKind.i64 0, Value.int IntKind.i64 0, Value.int IntKind.i64 0])).f fun i => (L.f i).sv)).f (chainF [SV.agg [i6 t.lo, i6 t.hi, i6 t.v, i6 t.mo, i6 t.pay]]))).f (i + 0)) = morL L t := by
  have hn : 0 + L.n = L.n := Nat.zero_add _
  unfold slOf morL
  congr 1
  · omega
  funext i
  have e : (if i < L.n then L.f i else t) = if i < 0 + L.n then (if i < 0 then ⟨0, 0, 0, 0, 0⟩ else L.f (i - 0)) else t := by
    rw [hn, Nat.sub_zero, if_neg (Nat.not_lt_zero i)]
  rw [e]
  refine sup_ext ?_ ?_ ?_ ?_ ?_
  · show (if i < 0 + L.n then (if i < 0 then (0 : Int) else (L.f (i - 0)).lo) else t.lo) = _
    split
    · split <;> rfl
    · rfl
  · show (if i < 0 + L.n then (if i < 0 then (0 : Int) else (L.f (i - 0)).hi) else t.hi) = _
    split
    · split <;> rfl
    · rfl
  · show (if i < 0 + L.n then (if i < 0 then (0 : Int) else (L.f (i - 0)).v) else t.v) = _
    split
    · split <;> rfl
    · rfl
  · show (if i < 0 + L.n then (if i < 0 then (0 : Int) else (L.f (i - 0)).mo) else t.mo) = _
    split
    · split <;> rfl
    · rfl
  · show (if i < 0 + L.n then (if i < 0 then (0 : Int) else (L.f (i - 0)).pay) else t.pay) = _
    split
    · split <;> rfl
    · rfl
theorem mor_s (L : Sl) (t : Sup) : (SV.lst 5 (0 + L.n + 1) fun i => (rowsK (Try.prog.cellsOf 28) (0 + L.n + 1) (appF (0 + L.n) (rowsK (Try.prog.cellsOf 28) (0 + L.n) (appF 0 (rowsK (Try.prog.cellsOf 28) 0 fun x => ofS (Value.agg #[Value.int IntKind.i64 0, Value.int IntKind.i64 0, Value.int IntKind.i64 0, Value.int IntKind.i64 0, Value.int IntKind.i64 0])).f fun i => (L.f i).sv)).f (chainF [SV.agg [i6 t.lo, i6 t.hi, i6 t.v, i6 t.mo, i6 t.pay]]))).f (i + 0)) = (morL L t).sv := by
  rw [← mor_e]; rfl
theorem rot_e (L : Sl) (k : Nat) : (slOf L.n fun i => ((rotL L k).f (i + 0)).sv) = rotL L k := rfl
theorem rot_s (L : Sl) (k : Nat) : (SV.lst 5 L.n fun i => ((rotL L k).f (i + 0)).sv) = (rotL L k).sv := rfl
theorem one_s (t : Sup) : SV.lst 5 1 (chainF [SV.agg [SV.int IntKind.i64 t.lo, SV.int IntKind.i64 t.hi, SV.int IntKind.i64 t.v, SV.int IntKind.i64 t.mo, SV.int IntKind.i64 t.pay]]) = (slOf 1 (chainF [SV.agg [SV.int IntKind.i64 t.lo, SV.int IntKind.i64 t.hi, SV.int IntKind.i64 t.v, SV.int IntKind.i64 t.mo, SV.int IntKind.i64 t.pay]])).sv := rfl
theorem one_e (t : Sup) : okSl (slOf 1 (chainF [SV.agg [SV.int IntKind.i64 t.lo, SV.int IntKind.i64 t.hi, SV.int IntKind.i64 t.v, SV.int IntKind.i64 t.mo, SV.int IntKind.i64 t.pay]])) = okSu t := propext ⟨fun h => h 0 (Nat.zero_lt_one), fun h i _ => h⟩
theorem km {L : Sl} {w : Int} (hw : 0 ≤ w) : w.tmod L.n = ((kX L w : Nat) : Int) := by
  have := Int.tmod_nonneg (L.n : Int) hw
  unfold kX; omega
theorem lf_true {L : Sl} {t : Sup} {v a b w y : Int} (hn : 1 ≤ L.n) (hw : 0 ≤ w) (hk : kX L w < L.n) : lfT1 L t v a b w y := by
  unfold lfT1
  have e := km (L := L) hw
  rw [e]
  have e2 : ((L.n : Int) - (kX L w : Nat)).toNat = L.n - kX L w := by omega
  have rl : ∀ i, (rotL L (kX L w)).f i = if i < L.n - kX L w then L.f (kX L w + i) else L.f (i - (L.n - kX L w)) := fun i => rfl
  simp only [e2, rE, Nat.not_lt_zero, if_false, Nat.zero_add, Nat.sub_zero, Int.toNat_natCast, Int.toNat_zero, Int.sub_zero, and_true, true_and, and_self, implies_true, rl]
  refine ⟨by omega, by omega, fun i hi => ?_⟩
  by_cases h : i < L.n - kX L w
  · simp only [if_pos h, and_self]
  · simp only [if_neg h, and_self]
end Go.Proofs.Ytgidaaogknikoaa

set_option maxRecDepth 100000
namespace Go.Proofs.Ytgidaaogknikoaa
open Go Go.Lg
attribute [local irreducible] bodyH funS
theorem hm_true {L : Sl} {t : Sup} {v a b w y : Int} (hw : 0 ≤ w ∧ w < 256) (hy : 0 ≤ y ∧ y < 256) : hmG L t v a b w y := by
  rw [hmG_vc]
  by_cases e0 : erX L v a b = 0
  · have B := best_of e0
    have y5 := Int.tmod_nonneg 5 hy.1
    have y5' := Int.tmod_lt_of_pos y (by omega : (0 : Int) < 5)
    have y7 := Int.tmod_nonneg 7 hy.1
    have y7' := Int.tmod_lt_of_pos y (by omega : (0 : Int) < 7)
    have s1 := B.hs.a
    have s2 := B.hs.b
    have s3 := B.hs.c
    have R1 := ric_le e0 (k := kX L w) y5
    have R4 := wid_le e0 (a' := max 0 (a - y.tmod 5)) (b' := min 10000 (b + y.tmod 7)) (by omega) (by omega)
    have hn := B.hn
    simp only [hmG0, hmG1, hmG2, hmG3, hmG4, hmG5, hmG6, hmG7, hmG8, hmG9, hmG10, hmG11, hmG12, rI, rE, tt3, tt4, tt5, tt13, tt14, ric_s, ric_e, mor_s, mor_e, rot_s, rot_e, one_s, one_e]
    simp only [e0, if_true, not_true_eq_false, false_implies, rI, rE, tt3, tt4, tt5, tt13, tt14, and_true, true_and, Nat.zero_lt_one, and_self, implies_true, Int.toNat_natCast, Nat.zero_add, Nat.add_zero, Nat.one_mul, Nat.mul_one, Classical.not_not, iff_self, Bool.false_eq_true, imp_false, true_implies, forall_const, Int.toNat_zero, R1.1, R4.1, not_false_eq_true]
    refine fun h4 hn0 => ⟨by omega, by omega, by omega, ?_, ?_⟩
    · have hk : kX L w < L.n := by
        have h1 := km (L := L) hw.1
        have h2 := Int.tmod_lt_of_pos w (by omega : (0 : Int) < L.n)
        omega
      have LF := lf_true (L := L) (t := t) (v := v) (a := a) (b := b) (w := w) (y := y) (by omega) hw.1 hk
      have e := km (L := L) hw.1
      rw [e]
      repeat' (first | exact LF | apply And.intro | intro _)
      all_goals omega
    · have hk : kX L w < L.n := by
        have h1 := km (L := L) hw.1
        have h2 := Int.tmod_lt_of_pos w (by omega : (0 : Int) < L.n)
        omega
      have R2 := rot_eq e0 (k := kX L w) (by omega)
      have m0 := (B.hL _ hk).m0
      have m1 := (B.hL _ hk).m1
      simp only [R2.1, R2.2, not_true_eq_false, false_implies, true_implies, and_true, true_and, not_false_eq_true]
      have R1b := R1.2
      have R4b := R4.2
      have M : (erX (morL L t) v a b = 0 → ¬ctX (morL L t) v a b ≤ ctX L v a b → (erX (morL L t) v a b = 1 → 1 ≤ 1000 ∧ ¬okSu t) ∧ erX (morL L t) v a b = 1) ∧ (¬erX (morL L t) v a b = 0 → (erX (morL L t) v a b = 1 → 1 ≤ 1000 ∧ ¬okSu t) ∧ erX (morL L t) v a b = 1) := by
        by_cases ht : okSu t
        · have R3 := mor_le e0 (by omega) ht
          exact ⟨fun _ h => absurd R3.2 h, fun h => absurd R3.1 h⟩
        · have R3 := mor_er (L := L) (v := v) (a := a) (b := b) (by omega) ht
          exact ⟨fun h => by rw [R3] at h; omega, fun _ => ⟨fun _ => ⟨by omega, ht⟩, R3⟩⟩
      repeat' apply And.intro
      all_goals first
        | omega
        | exact fun _ => ⟨by omega, fun _ => M⟩
  · have c0 := ctX_no e0
    simp only [e0, if_false, not_false_eq_true, false_implies, rI, rE, tt3, tt4, tt5, tt13, tt14, and_true, true_and, Nat.zero_lt_one, and_self, implies_true, Int.toNat_natCast, Nat.zero_add, Nat.add_zero, Nat.one_mul, Nat.mul_one, Classical.not_not, iff_self, Bool.false_eq_true, imp_false, true_implies, forall_const, Int.toNat_zero]
    exact fun h1 h2 => ⟨by omega, ⟨fun _ => c0, rfl⟩, fun h => absurd trivial h⟩
theorem hm_does {L : Sl} {t : Sup} {v a b w y : Int} (hw : 0 ≤ w ∧ w < 256) (hy : 0 ≤ y ∧ y < 256) : Does Try.prog 6 false (SV.denL [L.sv, t.sv, i6 v, i6 a, i6 b, .int .u8 w, .int .u8 y]) (.sc (.bool true)) := by
  have hh := hm_true (L := L) (t := t) (v := v) (a := a) (b := b) hw hy
  unfold hmG at hh
  exact funH_does csM_ok nilS_x nilS_ic mixed hh
end Go.Proofs.Ytgidaaogknikoaa
