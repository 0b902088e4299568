import Derived.Test.YtpannbkmpbioiaaQgQhQiQiVQj
set_option linter.unusedVariables false
set_option linter.unusedSimpArgs false
namespace Go.Proofs.Ytpannbkmpbioiaa
open Go Go.Lg
attribute [local irreducible] bodyH
theorem chk_zero {w : Nw} {z : Int} (h : chkN w z = 0) : okNet w ∧ 0 ≤ z ∧ z < w.j.n := by
  unfold chkN at h
  split at h
  · rename_i h1
    split at h
    · rename_i h2; exact ⟨h1, h2⟩
    · cases h
  · cases h
theorem Fed_true (w : Nw) (z : Int) : FedG w z := by
  rw [FedG_vc]
  simp only [and_true, true_and, Nat.zero_lt_one, implies_true, Classical.not_not]
  exact ⟨fun h => by simp [FedV, h], fun h => ⟨(chk_zero h).1.okJ (chk_zero h).2, by simp [FedV, h], h.symm⟩⟩
theorem Pre_true (w : Nw) (z : Int) : PreG w z := by
  rw [PreG_vc]
  simp only [and_true, true_and, Nat.zero_lt_one, implies_true, Classical.not_not]
  refine ⟨fun h => ?_, fun h => ⟨(chk_zero h).1.okJ (chk_zero h).2, fun h1 => ?_, fun h1 => ⟨chk_zero h, ?_⟩⟩⟩
  · have e : PrE w z = chkN w z := by simp [PrE, h]
    simp [PrL, PrH, e, h]
  · have e : PrE w z = 4 := by simp [PrE, h, h1]
    simp [PrL, PrH, e]
  · have e : PrE w z = 0 := by simp [PrE, h, h1]
    simp [PrL, PrH, e]
theorem fst_all {w : Nw} : ∀ {i : Nat}, (∀ j, j < i → ¬ badJ w j) → fstB w i = i
  | 0, _ => rfl
  | i + 1, h => by
    have := fst_all (i := i) fun j hj => h j (by omega)
    simp only [fstB, this, Nat.lt_irrefl, if_false, h i (by omega)]
theorem fst_at {w : Nw} {h : Nat} (ha : ∀ j, j < h → ¬ badJ w j) (hb : badJ w h) : ∀ {i : Nat}, h < i → fstB w i = h
  | 0, hi => by omega
  | i + 1, hi => by
    rcases Nat.lt_or_ge h i with h' | h'
    · have := fst_at ha hb h'
      simp only [fstB, this, h', if_true]
    · have e : h = i := by omega
      subst e
      simp only [fstB, fst_all ha, Nat.lt_irrefl, if_false, hb, if_true]
theorem flt_at {w : Nw} {z : Nat} (ha : ∀ j, j < z → ¬ badJ w j) (hb : badJ w z) (hz : z < w.j.n) : (z : Int) = ftJ w ∧ (prLo w z < w.j.le z ↔ ftL w) ∧ ftI w := by
  have e := fst_at ha hb hz
  have hi : ftI w := ⟨by rw [e]; exact hz⟩
  refine ⟨by simp [ftJ, hi, e], ⟨fun h => ⟨hi, by rw [e]; exact h⟩, fun h => by have := h.h; rwa [e] at this⟩, hi⟩
theorem flt_true (w : Nw) (h : okNet w) : fltG w := by
  rw [fltG_vc]
  simp only [and_true, true_and, Nat.zero_lt_one, implies_true, Int.toNat_natCast, Bool.false_eq_true, false_iff, true_iff]
  have hn := h.n
  refine ⟨⟨0, ⟨by omega, fun k hk => by omega⟩, rfl⟩, fun z hz => ⟨fun hlt => ?_, fun hge => ?_⟩⟩
  · have hz' : z < w.j.n := by omega
    refine ⟨by omega, hlt, h.okJ ⟨by omega, hlt⟩, fun h1 => ⟨by omega, z + 1, ⟨by omega, to_succ hz.2 fun hb => hb.fed h1⟩, by omega, by omega⟩, fun h1 => ⟨⟨h, by omega, hlt⟩, fun h2 => flt_at hz.2 ⟨h1, .inl h2⟩ hz', fun h2 => ⟨fun h3 => flt_at hz.2 ⟨h1, .inr h3⟩ hz', fun h3 => ⟨by omega, z + 1, ⟨by omega, to_succ hz.2 fun hb => ?_⟩, by omega, by omega⟩⟩⟩⟩
    rcases hb.out with h4 | h4
    · exact h2 h4
    · exact h3 h4
  · have e : z = w.j.n := by omega
    subst e
    have e := fst_all hz.2
    have hi : ¬ ftI w := fun h => by have := h.h; omega
    exact ⟨by simp [ftJ, hi], fun h => hi h.i, hi⟩
theorem Flt_true (w : Nw) : FltG w := by
  rw [FltG_vc]
  simp only [and_true, true_and, Nat.zero_lt_one, implies_true, Classical.not_not, Bool.false_eq_true, false_iff]
  refine ⟨fun h => ?_, fun h => ⟨h, fun h1 => ?_, fun h1 => ?_⟩⟩
  · have e : FtE w = 1 := by simp [FtE, h]
    exact ⟨by simp [FtJ, e], fun h => by have := h.e; omega, e.symm⟩
  · have e : FtE w = 4 := by simp [FtE, h, h1]
    exact ⟨by simp [FtJ, e], fun h => by have := h.e; omega, e.symm⟩
  · have e : FtE w = 0 := by simp [FtE, h, h1]
    exact ⟨by simp [FtJ, e], ⟨fun h => ⟨e, h⟩, fun h => h.l⟩, e.symm⟩
theorem csL_sound (b : Bool) : SoundS Try.prog (csL b) := ctrsF_sound (ctrs_sound (by
  intro x hx
  simp only [List.mem_cons, List.not_mem_nil, or_false] at hx
  rcases hx with rfl | rfl
  · exact lo_ok
  · exact hi_ok)) (by
  intro x hx
  simp only [List.mem_cons, List.not_mem_nil, or_false] at hx
  subst hx
  exact led_ok b)
theorem ledI_sound (b : Bool) (M : Nat) : SoundIH Try.prog (ictrs [ledI b M]) := ictrs_sound (by
  intro x hx
  simp only [List.mem_cons, List.not_mem_nil, or_false] at hx
  subst hx
  exact ledI_ok b M)
theorem flow_ok (b : Bool) : (flowC b).Ok Try.prog := by
  refine ⟨by kernel_rfl, fun args k hk => ?_⟩
  simp only [flowC] at hk
  split at hk
  · rename_i e x z
    obtain ⟨rfl, hx, ⟨hw, hz⟩, hk⟩ := hk
    refine ⟨_, ?_, hk⟩
    rw [hx]
    have key : flw b (wOf x) z := by
      cases b with
      | true => exact flwT_true hw hz
      | false => exact flwF_true hw hz
    unfold flw at key
    exact okV (csL_sound b) nil_x (ledI_sound b 2000) key trivial
  · exact hk.elim
theorem csP0_sound (b : Bool) : SoundS Try.prog (ctrs [loC, hiC, flowC b, govC]) := ctrs_sound (by
  intro x hx
  simp only [List.mem_cons, List.not_mem_nil, or_false] at hx
  rcases hx with rfl | rfl | rfl | rfl
  · exact lo_ok
  · exact hi_ok
  · exact flow_ok b
  · exact gov_ok)
theorem at_ok (b : Bool) : ∀ M, (atC b M).Ok Try.prog
  | 0 => ⟨by kernel_rfl, fun p hp => by have := hp.2.2; omega⟩
  | M + 1 => ⟨by kernel_rfl, fun p hp => by
    have hcs : SoundS Try.prog (csP b M) := ctrsQ_sound (csP0_sound b) (by
      intro x hx
      simp only [List.mem_cons, List.not_mem_nil, or_false] at hx
      subst hx
      exact at_ok b M)
    obtain ⟨hw, hz, hM⟩ := hp
    have key : atG b M p.1 p.2 := by
      cases b with
      | true => exact atT_true hw hz hM
      | false => exact atF_true hw hz hM
    unfold atG at key
    exact stH_ok hcs nil_x nil_ic mixed key⟩
theorem csP_sound (b : Bool) (M : Nat) : SoundS Try.prog (csP b M) := ctrsQ_sound (csP0_sound b) (by
  intro x hx
  simp only [List.mem_cons, List.not_mem_nil, or_false] at hx
  subst hx
  exact at_ok b M)
theorem pr_ok : prC.Ok Try.prog := by
  refine ⟨by kernel_rfl, fun args k hk => ?_⟩
  simp only [prC] at hk
  split at hk
  · rename_i e x z
    split at hk
    · obtain ⟨rfl, hx, ⟨hw, hz⟩, hk⟩ := hk
      have hh := prT_true hw hz
      unfold prTG prG at hh
      refine ⟨_, ?_, hk⟩
      rw [hx]
      exact okV (csP_sound true 100) nil_x nil_ic hh trivial
    · obtain ⟨rfl, hx, ⟨hw, hz⟩, hk⟩ := hk
      have hh := prF_true hw hz
      unfold prFG prG at hh
      refine ⟨_, ?_, hk⟩
      rw [hx]
      exact okV (csP_sound false 100) nil_x nil_ic hh trivial
  · exact hk.elim
theorem csR_sound : SoundS Try.prog (ctrsF [openC] (ctrs [endC true 58, endC false 60, prC])) := ctrsF_sound (ctrs_sound (by
  intro x hx
  simp only [List.mem_cons, List.not_mem_nil, or_false] at hx
  rcases hx with rfl | rfl | rfl
  · exact endT_ok
  · exact endF_ok
  · exact pr_ok)) (by
  intro x hx
  simp only [List.mem_cons, List.not_mem_nil, or_false] at hx
  subst hx
  exact open_ok)
theorem prs_ok : prsC.Ok Try.prog := netC_ok (by kernel_rfl) fun w r k hk => by
  split at hk
  · rename_i z
    have hh := prs_true hk.1.1 hk.1.2
    unfold prsG at hh
    exact ⟨_, okV csR_sound nil_x nil_ic hh (by simp [plainS, plainS.plainL]), hk.2⟩
  · exact hk.elim
theorem csT_sound : SoundS Try.prog csT := ctrs_sound (by
  intro x hx
  simp only [List.mem_cons, List.not_mem_nil, or_false] at hx
  rcases hx with rfl | rfl | rfl | rfl
  · exact chk_ok
  · exact fed_ok
  · exact prs_ok
  · exact vnet40)
def FltC : Ctr := netC 16 fun w r k => match r with
  | [] => k (.tup [i6 (FtJ w), .dec (FtL w) (Classical.propDecidable _), i6 (FtE w)])
  | _ => False
theorem flt_ok : fltC.Ok Try.prog := netC_ok (by kernel_rfl) fun w r k hk => by
  split at hk
  · have hh := flt_true w hk.1
    unfold fltG at hh
    exact ⟨_, okV csT_sound nil_x nil_ic hh (by simp [plainS, plainS.plainL]), hk.2⟩
  · exact hk.elim
theorem Flt_ok : FltC.Ok Try.prog := netC_ok (by kernel_rfl) fun w r k hk => by
  split at hk
  · have hh := Flt_true w
    unfold FltG at hh
    refine ⟨_, okV (ctrs_sound (by
      intro x hx
      simp only [List.mem_cons, List.not_mem_nil, or_false] at hx
      rcases hx with rfl | rfl
      · exact vnet40
      · exact flt_ok)) nil_x nil_ic hh (by simp [plainS, plainS.plainL]), hk⟩
  · exact hk.elim
end Go.Proofs.Ytpannbkmpbioiaa

namespace Go.Proofs.Ytpannbkmpbioiaa
open Go Go.Lg
def pw (n : Nat) : Nat := 2 ^ n
def hs (o k : Nat) : Prop := o / 2 ^ k % 2 = 1
def onW (m : Mn) (o j : Nat) : Prop := ∀ i, i < dpt m j j → hs o (up m j i - 1)
def behW (m : Mn) (k j : Nat) : Prop := ∃ i, i < dpt m j j ∧ up m j i = k + 1
def mayK (m : Mn) (o k : Nat) : Prop := ¬ (m.va k = 0 ∧ ¬ hs o k) ∧ ¬ (m.va k = 1 ∧ hs o k)
structure mayM (m : Mn) (o : Nat) : Prop where
  h : ∀ k, k < m.n → mayK m o k
open Classical in
noncomputable def thr (m : Mn) (o k : Nat) (d : Nat → Int) : Nat → Int
  | 0 => 0
  | J + 1 => thr m o k d J + (if behW m k J ∧ onW m o J then d J else 0)
noncomputable def atL (w : Nw) (o : Nat) (d : Nat → Int) (s : Int) : Nat → Nat → Int
  | 0, j => govd (w.j.go j) s
  | F + 1, j => govd (w.j.go j) (if j = 0 then s else atL w o d s F (w.m.fr (j - 1)).toNat - w.m.dr (j - 1) * thr w.m o (j - 1) d w.j.n)
noncomputable def atS (w : Nw) (o : Nat) (d : Nat → Int) (s : Int) (j : Nat) : Int := atL w o d s j j
structure dOK (n : Nat) (d : Nat → Int) : Prop where
  h : ∀ i, i < n → 0 ≤ d i ∧ d i ≤ 1000000
structure onA (w : Nw) (j o : Nat) : Prop where
  may : mayM w.m o
  on : onW w.m o j
structure allR (w : Nw) (j N : Nat) : Prop where
  h : ∀ o, o < N → mayM w.m o → onW w.m o j
structure fndR (w : Nw) (j N : Nat) : Prop where
  h : ∃ o, o < N ∧ onA w j o
noncomputable def lwR (w : Nw) (j o : Nat) : Int := atS w o w.j.nh w.s0 j
noncomputable def hgR (w : Nw) (j o : Nat) : Int := atS w o w.j.nl w.s1 j
open Classical in
noncomputable def loR (w : Nw) (j : Nat) : Nat → Int
  | 0 => 0
  | o + 1 => if onA w j o then (if fndR w j o then min (loR w j o) (lwR w j o) else lwR w j o) else loR w j o
open Classical in
noncomputable def upR (w : Nw) (j : Nat) : Nat → Int
  | 0 => 0
  | o + 1 => if onA w j o then (if fndR w j o then max (upR w j o) (hgR w j o) else hgR w j o) else upR w j o
structure badR (w : Nw) (j : Nat) : Prop where
  f : fndR w j (pw w.m.n)
  out : loR w j (pw w.m.n) < w.j.le j ∨ w.j.mo j < upR w j (pw w.m.n)
open Classical in
noncomputable def fstR (w : Nw) : Nat → Nat
  | 0 => 0
  | i + 1 => if fstR w i < i then fstR w i else if badR w i then i else i + 1
structure ftIR (w : Nw) : Prop where
  h : fstR w w.j.n < w.j.n
open Classical in
noncomputable def FtER (w : Nw) : Int := if okNet w then (if ftIR w then 0 else 4) else 1
open Classical in
noncomputable def FtJR (w : Nw) : Int := if FtER w = 0 then fstR w w.j.n else 0
structure FtLR (w : Nw) : Prop where
  e : FtER w = 0
  h : loR w (fstR w w.j.n) (pw w.m.n) < w.j.le (fstR w w.j.n)
def powC : Ctr := ⟨36, fun args k => match args with
  | [.int .i64 n] => (0 ≤ n ∧ n ≤ 40) ∧ k (i6 (pw n.toNat : Int))
  | _ => False⟩
def hasC : Ctr := ⟨29, fun args k => match args with
  | [.int .i64 o, .int .i64 n] => ((0 ≤ o ∧ o ≤ 1099511627776) ∧ 0 ≤ n ∧ n ≤ 40) ∧ k (.dec (hs o.toNat n.toNat) (Classical.propDecidable _))
  | _ => False⟩
def mayC : Ctr := netC 37 fun w r k => match r with
  | [.int .i64 o] => ((0 ≤ o ∧ o ≤ 1099511627776) ∧ w.m.n ≤ 40) ∧ k (.dec (mayM w.m o.toNat) (Classical.propDecidable _))
  | _ => False
def isC (M : Nat) : Ctr := netC 25 fun w r k => match r with
  | [.int .i64 o, .int .i64 z] => ((0 ≤ o ∧ o ≤ 1099511627776) ∧ w.m.n ≤ 40 ∧ okM w.m ∧ (0 ≤ z ∧ z ≤ w.m.n) ∧ z.toNat < M) ∧ k (.dec (onW w.m o.toNat z.toNat) (Classical.propDecidable _))
  | _ => False
def behC (M : Nat) : Ctr := netC 67 fun w r k => match r with
  | [.int .i64 q, .int .i64 z] => ((0 ≤ q ∧ q ≤ 40) ∧ w.m.n ≤ 40 ∧ okM w.m ∧ (0 ≤ z ∧ z ≤ w.m.n) ∧ z.toNat < M) ∧ k (.dec (behW w.m q.toNat z.toNat) (Classical.propDecidable _))
  | _ => False
def dV (n : Nat) (d : Nat → Int) : SV := .lst 1 n fun i => i6 (d i)
def thrC : Ctr := netC 50 fun w r k => match r with
  | [.int .i64 o, .int .i64 q, .lst 1 n f] => (f = fun i => i6 (prI (f i))) ∧ (okNet w ∧ (0 ≤ o ∧ o ≤ 1099511627776) ∧ (0 ≤ q ∧ q < w.m.n) ∧ n = w.j.n ∧ dOK w.j.n fun i => prI (f i)) ∧ k (i6 (thr w.m o.toNat q.toNat (fun i => prI (f i)) w.j.n))
  | _ => False
def atRC (M : Nat) : Ctr := netC 26 fun w r k => match r with
  | [.int .i64 o, .int .i64 z, .lst 1 n f, .int .i64 s] => (f = fun i => i6 (prI (f i))) ∧ (okNet w ∧ (0 ≤ o ∧ o ≤ 1099511627776) ∧ (0 ≤ z ∧ z < w.j.n) ∧ n = w.j.n ∧ dOK w.j.n (fun i => prI (f i)) ∧ (0 ≤ s ∧ s ≤ 1099511627776) ∧ z.toNat < M) ∧ k (i6 (atS w o.toNat (fun i => prI (f i)) s z.toNat))
  | _ => False
def prsRC : Ctr := netC 39 fun w r k => match r with
  | [.int .i64 z] => (okNet w ∧ 0 ≤ z ∧ z < w.j.n) ∧ k (.tup [.agg [i6 (loR w z.toNat (pw w.m.n)), i6 (upR w z.toNat (pw w.m.n))], .dec (fndR w z.toNat (pw w.m.n)) (Classical.propDecidable _)])
  | _ => False
noncomputable def powG (n : Nat) : Prop := funH Try.prog (ctrs []) noX (ictrs []) (oneL 0 (natH (fun i => i ≤ n) (fun i => n - i) 0 (fun i => mkF 13 [(0, i6 n), (2, i6 0), (3, i6 (pw i : Int)), (4, i6 i)]) (fun _ => ⟨0, .nil⟩) fun _ => none)) noL 36 [i6 n] (i6 (pw n : Int))
noncomputable def hasG (o n : Int) : Prop := funH Try.prog (ctrs [powC]) noX (ictrs []) noL noL 29 [i6 o, i6 n] (.dec (hs o.toNat n.toNat) (Classical.propDecidable _))
noncomputable def mayG (w : Nw) (o : Int) : Prop := funH Try.prog (ctrs [hasC]) noX (ictrs [])
  (oneL 0 (natH (fun i => i ≤ w.m.n ∧ ∀ k, k < i → mayK w.m o.toNat k) (fun i => w.m.n - i) 1 (fun i => mkF 40 [(1, i6 o), (2, .ptr 0 0 0), (4, .bool false), (5, i6 i)]) (fun _ => mkX [vr 4 w.sv]) fun _ => none)) noL
  37 [w.sv, i6 o] (.dec (mayM w.m o.toNat) (Classical.propDecidable _))
noncomputable def isG (M : Nat) (w : Nw) (o z : Int) : Prop := funH Try.prog (ctrs [hasC, isC M]) noX (ictrs []) noL noL 25 [w.sv, i6 o, i6 z] (.dec (onW w.m o.toNat z.toNat) (Classical.propDecidable _))
noncomputable def behG (M : Nat) (w : Nw) (q z : Int) : Prop := funH Try.prog (ctrs [behC M]) noX (ictrs []) noL noL 67 [w.sv, i6 q, i6 z] (.dec (behW w.m q.toNat z.toNat) (Classical.propDecidable _))
noncomputable def thrG (w : Nw) (o q : Int) (d : Nat → Int) : Prop := funH Try.prog (ctrs [behC 100, isC 100]) noX (ictrs [])
  (oneL 0 (natH (fun i => i ≤ w.j.n) (fun i => w.j.n - i) 1 (fun i => mkF 35 [(1, i6 o), (2, i6 q), (3, dV w.j.n d), (4, .ptr 0 0 0), (8, i6 0), (9, i6 (thr w.m o.toNat q.toNat d i)), (10, i6 i)]) (fun _ => mkX [vr 4 w.sv]) fun _ => none)) noL
  50 [w.sv, i6 o, i6 q, dV w.j.n d] (i6 (thr w.m o.toNat q.toNat d w.j.n))
noncomputable def atRG (M : Nat) (w : Nw) (o z : Int) (d : Nat → Int) (s : Int) : Prop := funH Try.prog (ctrs [thrC, atRC M]) noX (ictrs []) noL noL 26 [w.sv, i6 o, i6 z, dV w.j.n d, i6 s] (i6 (atS w o.toNat d s z.toNat))
noncomputable def prsRG (w : Nw) (z : Int) : Prop := funH Try.prog (ctrs [powC, mayC, isC 100, atRC 100]) noX (ictrs [])
  (twoL 0 (appH2 92 6 7 (fun i => i ≤ w.j.n) (fun i => w.j.n - i) (w.j.n + 1) 2 (fun i => mkF 92 [(1, i6 z), (2, .ptr 0 0 0), (4, .ptr 1 0 0), (5, .bool false), (6, .sl 2 0 i), (7, .sl 3 0 i), (8, i6 i)]) fun i => mkX [vr 4 w.sv, vr 2 (.agg [i6 0, i6 0]), rw' 1 i fun q => i6 (w.j.nl q), rw' 1 i fun q => i6 (w.j.nh q)])
  (oneL 2 (natH (fun i => i ≤ pw w.m.n) (fun i => pw w.m.n - i) 5 (fun i => mkF 92 [(1, i6 z), (2, .ptr 0 0 0), (4, .ptr 1 0 0), (5, .bool false), (6, .sl 2 0 w.j.n), (7, .sl 3 0 w.j.n), (9, .ptr 4 0 0), (10, .dec (fndR w z.toNat i) (Classical.propDecidable _)), (11, i6 i)])
    (fun i => mkX [vr 4 w.sv, vr 2 (.agg [i6 0, i6 0]), rw' 1 w.j.n fun q => i6 (w.j.nl q), rw' 1 w.j.n fun q => i6 (w.j.nh q), vr 2 (.agg [i6 (loR w z.toNat i), i6 (upR w z.toNat i)])]) fun _ => none))) noL
  39 [w.sv, i6 z] (.tup [.agg [i6 (loR w z.toNat (pw w.m.n)), i6 (upR w z.toNat (pw w.m.n))], .dec (fndR w z.toNat (pw w.m.n)) (Classical.propDecidable _)])
noncomputable def FltRG (w : Nw) : Prop := funH Try.prog (ctrs [vnetC 23, prsRC]) noX (ictrs [])
  (oneL 0 (natH (fun i => i ≤ w.j.n ∧ ∀ k, k < i → ¬ badR w k) (fun i => w.j.n - i) 1 (fun i => mkF 51 [(1, .ptr 0 0 0), (2, i6 0), (3, .bool false), (4, i6 0), (5, i6 i)]) (fun _ => mkX [vr 4 w.sv]) fun _ => none)) noL
  17 [w.sv] (.tup [i6 (FtJR w), .dec (FtLR w) (Classical.propDecidable _), i6 (FtER w)])
end Go.Proofs.Ytpannbkmpbioiaa

set_option maxRecDepth 100000
namespace Go.Proofs.Ytpannbkmpbioiaa
open Go Go.Lg
theorem powG_vc (n : Nat) : powG n = ((∃ (z : Nat), z ≤ n ∧ (↑n : Int) = (↑n : Int) ∧ (0 : Int) = (0 : Int) ∧ (1 : Int) = (↑(pw z) : Int) ∧ (0 : Int) = (↑z : Int) ∧ True) ∧ ∀ (z : Nat), z ≤ n → ((↑z : Int) < (↑n : Int) → ((-9223372036854775808 : Int) ≤ (2 : Int) * (↑(pw z) : Int) ∧ (2 : Int) * (↑(pw z) : Int) ≤ (9223372036854775807 : Int)) ∧ ((-9223372036854775808 : Int) ≤ (↑z : Int) + (1 : Int) ∧ (↑z : Int) + (1 : Int) ≤ (9223372036854775807 : Int)) ∧ ∃ (z_1 : Nat), z_1 ≤ n ∧ n - z_1 < n - z ∧ (↑n : Int) = (↑n : Int) ∧ (0 : Int) = (0 : Int) ∧ (2 : Int) * (↑(pw z) : Int) = (↑(pw z_1) : Int) ∧ (↑z : Int) + (1 : Int) = (↑z_1 : Int) ∧ True) ∧ (¬(↑z : Int) < (↑n : Int) → (↑(pw z) : Int) = (↑(pw n) : Int) ∧ True)) := by kernel_rfl
theorem hasG_vc (o : Int) (n : Int) : hasG o n = (((0 : Int) ≤ n ∧ n ≤ (40 : Int)) ∧ ((↑(pw n.toNat) : Int) = (0 : Int) → False) ∧ ((-9223372036854775808 : Int) ≤ o.tdiv (↑(pw n.toNat) : Int) ∧ o.tdiv (↑(pw n.toNat) : Int) ≤ (9223372036854775807 : Int)) ∧ ((2 : Int) = (0 : Int) → False) ∧ ((o.tdiv (↑(pw n.toNat) : Int)).tmod (2 : Int) = (1 : Int) ↔ hs o.toNat n.toNat) ∧ True) := by kernel_rfl
theorem mayG_vc (w : Nw) (o : Int) : mayG w o = ((∃ (z : Nat), (z ≤ w.m.1 ∧ ∀ (k : Nat), k < z → mayK w.m o.toNat k) ∧ o = o ∧ (0 : Nat) = (0 : Nat) ∧ (0 : Nat) = (0 : Nat) ∧ false = false ∧ (0 : Int) = (↑z : Int) ∧ w.1 = w.1 ∧ w.2 = w.2 ∧ w.j.1 = w.j.1 ∧ (∀ (i : Nat), i < w.j.1 → (SV.agg [i6 (w.j.nl i), i6 (w.j.nh i), i6 (w.j.le i), i6 (w.j.mo i), i6 (w.j.go i)]).den = (SV.agg [i6 (w.j.nl i), i6 (w.j.nh i), i6 (w.j.le i), i6 (w.j.mo i), i6 (w.j.go i)]).den ∧ True ∧ True ∧ True ∧ True ∧ True ∧ True) ∧ w.m.1 = w.m.1 ∧ (∀ (i : Nat), i < w.m.1 → (SV.agg [i6 (w.m.fr i), i6 (w.m.dr i), i6 (w.m.va i), i6 (w.m.co i)]).den = (SV.agg [i6 (w.m.fr i), i6 (w.m.dr i), i6 (w.m.va i), i6 (w.m.co i)]).den ∧ True ∧ True ∧ True ∧ True ∧ True) ∧ True) ∧ ∀ (z : Nat), (z ≤ w.m.1 ∧ ∀ (k : Nat), k < z → mayK w.m o.toNat k) → (0 : Nat) < (1 : Nat) ∧ ((↑z : Int) < (↑w.m.1 : Int) → (0 : Nat) < (1 : Nat) ∧ (0 : Int) ≤ (↑z : Int) ∧ (↑z : Int) < (↑w.m.1 : Int) ∧ (w.m.4 (↑z : Int).toNat = (0 : Int) → (((0 : Int) ≤ o ∧ o ≤ (1099511627776 : Int)) ∧ (0 : Int) ≤ (↑z : Int) ∧ (↑z : Int) ≤ (40 : Int)) ∧ (¬hs o.toNat (↑z : Int).toNat → (false = true ↔ mayM w.m o.toNat) ∧ True) ∧ (¬¬hs o.toNat (↑z : Int).toNat → (0 : Nat) < (1 : Nat) ∧ (0 : Int) ≤ (↑z : Int) ∧ (↑z : Int) < (↑w.m.1 : Int) ∧ (w.m.4 (↑z : Int).toNat = (1 : Int) → (((0 : Int) ≤ o ∧ o ≤ (1099511627776 : Int)) ∧ (0 : Int) ≤ (↑z : Int) ∧ (↑z : Int) ≤ (40 : Int)) ∧ (hs o.toNat (↑z : Int).toNat → (false = true ↔ mayM w.m o.toNat) ∧ True) ∧ (¬hs o.toNat (↑z : Int).toNat → ((-9223372036854775808 : Int) ≤ (↑z : Int) + (1 : Int) ∧ (↑z : Int) + (1 : Int) ≤ (9223372036854775807 : Int)) ∧ ∃ (z_1 : Nat), (z_1 ≤ w.m.1 ∧ ∀ (k : Nat), k < z_1 → mayK w.m o.toNat k) ∧ w.m.1 - z_1 < w.m.1 - z ∧ o = o ∧ (0 : Nat) = (0 : Nat) ∧ (0 : Nat) = (0 : Nat) ∧
 false = false ∧ (↑z : Int) + (1 : Int) = (↑z_1 : Int) ∧ w.1 = w.1 ∧ w.2 = w.2 ∧ w.j.1 = w.j.1 ∧ (∀ (i : Nat), i < w.j.1 → (SV.agg [i6 (w.j.nl i), i6 (w.j.nh i), i6 (w.j.le i), i6 (w.j.mo i), i6 (w.j.go i)]).den = (SV.agg [i6 (w.j.nl i), i6 (w.j.nh i), i6 (w.j.le i), i6 (w.j.mo i), i6 (w.j.go i)]).den ∧ True ∧ True ∧ True ∧ True ∧ True ∧ True) ∧ w.m.1 = w.m.1 ∧ (∀ (i : Nat), i < w.m.1 → (SV.agg [i6 (w.m.fr i), i6 (w.m.dr i), i6 (w.m.va i), i6 (w.m.co i)]).den = (SV.agg [i6 (w.m.fr i), i6 (w.m.dr i), i6 (w.m.va i), i6 (w.m.co i)]).den ∧ True ∧ True ∧ True ∧ True ∧ True) ∧ True)) ∧ (¬w.m.4 (↑z : Int).toNat = (1 : Int) → ((-9223372036854775808 : Int) ≤ (↑z : Int) + (1 : Int) ∧ (↑z : Int) + (1 : Int) ≤ (9223372036854775807 : Int)) ∧ ∃ (z_1 : Nat), (z_1 ≤ w.m.1 ∧ ∀ (k : Nat), k < z_1 → mayK w.m o.toNat k) ∧ w.m.1 - z_1 < w.m.1 - z ∧ o = o ∧ (0 : Nat) = (0 : Nat) ∧ (0 : Nat) = (0 : Nat) ∧ false = false ∧ (↑z : Int) + (1 : Int) = (↑z_1 : Int) ∧ w.1 = w.1 ∧ w.2 = w.2 ∧ w.j.1 = w.j.1 ∧ (∀ (i : Nat), i < w.j.1 → (SV.agg [i6 (w.j.nl i), i6 (w.j.nh i), i6 (w.j.le i), i6 (w.j.mo i), i6 (w.j.go i)]).den = (SV.agg [i6 (w.j.nl i), i6 (w.j.nh i), i6 (w.j.le i), i6 (w.j.mo i), i6 (w.j.go i)]).den ∧ True ∧ True ∧ True ∧ True ∧ True ∧ True) ∧ w.m.1 = w.m.1 ∧ (∀ (i : Nat), i < w.m.1 → (SV.agg [i6 (w.m.fr i), i6 (w.m.dr i), i6 (w.m.va i), i6 (w.m.co i)]).den = (SV.agg [i6 (w.m.fr i), i6 (w.m.dr i), i6 (w.m.va i), i6 (w.m.co i)]).den ∧ True ∧ True ∧ True ∧ True ∧ True) ∧ True))) ∧ (¬w.m.4 (↑z : Int).toNat = (0 : Int) → (0 : Nat) < (1 : Nat) ∧ (0 : Int) ≤ (↑z : Int) ∧ (↑z : Int) < (↑w.m.1 : Int) ∧ (w.m.4 (↑z : Int).toNat = (1 : Int) → (((0 : Int) ≤ o ∧ o ≤ (1099511627776 : Int)) ∧ (0 : Int) ≤ (↑z : Int) ∧ (↑z : Int) ≤ (40 : Int)) ∧
 (hs o.toNat (↑z : Int).toNat → (false = true ↔ mayM w.m o.toNat) ∧ True) ∧ (¬hs o.toNat (↑z : Int).toNat → ((-9223372036854775808 : Int) ≤ (↑z : Int) + (1 : Int) ∧ (↑z : Int) + (1 : Int) ≤ (9223372036854775807 : Int)) ∧ ∃ (z_1 : Nat), (z_1 ≤ w.m.1 ∧ ∀ (k : Nat), k < z_1 → mayK w.m o.toNat k) ∧ w.m.1 - z_1 < w.m.1 - z ∧ o = o ∧ (0 : Nat) = (0 : Nat) ∧ (0 : Nat) = (0 : Nat) ∧ false = false ∧ (↑z : Int) + (1 : Int) = (↑z_1 : Int) ∧ w.1 = w.1 ∧ w.2 = w.2 ∧ w.j.1 = w.j.1 ∧ (∀ (i : Nat), i < w.j.1 → (SV.agg [i6 (w.j.nl i), i6 (w.j.nh i), i6 (w.j.le i), i6 (w.j.mo i), i6 (w.j.go i)]).den = (SV.agg [i6 (w.j.nl i), i6 (w.j.nh i), i6 (w.j.le i), i6 (w.j.mo i), i6 (w.j.go i)]).den ∧ True ∧ True ∧ True ∧ True ∧ True ∧ True) ∧ w.m.1 = w.m.1 ∧ (∀ (i : Nat), i < w.m.1 → (SV.agg [i6 (w.m.fr i), i6 (w.m.dr i), i6 (w.m.va i), i6 (w.m.co i)]).den = (SV.agg [i6 (w.m.fr i), i6 (w.m.dr i), i6 (w.m.va i), i6 (w.m.co i)]).den ∧ True ∧ True ∧ True ∧ True ∧ True) ∧ True)) ∧ (¬w.m.4 (↑z : Int).toNat = (1 : Int) → ((-9223372036854775808 : Int) ≤ (↑z : Int) + (1 : Int) ∧ (↑z : Int) + (1 : Int) ≤ (9223372036854775807 : Int)) ∧ ∃ (z_1 : Nat), (z_1 ≤ w.m.1 ∧ ∀ (k : Nat), k < z_1 → mayK w.m o.toNat k) ∧ w.m.1 - z_1 < w.m.1 - z ∧ o = o ∧ (0 : Nat) = (0 : Nat) ∧ (0 : Nat) = (0 : Nat) ∧ false = false ∧ (↑z : Int) + (1 : Int) = (↑z_1 : Int) ∧ w.1 = w.1 ∧ w.2 = w.2 ∧ w.j.1 = w.j.1 ∧ (∀ (i : Nat), i < w.j.1 → (SV.agg [i6 (w.j.nl i), i6 (w.j.nh i), i6 (w.j.le i), i6 (w.j.mo i), i6 (w.j.go i)]).den = (SV.agg [i6 (w.j.nl i), i6 (w.j.nh i), i6 (w.j.le i), i6 (w.j.mo i), i6 (w.j.go i)]).den ∧ True ∧ True ∧ True ∧ True ∧ True ∧ True) ∧ w.m.1 = w.m.1 ∧ (∀ (i : Nat), i < w.m.1 → (SV.agg [i6 (w.m.fr i), i6 (w.m.dr i), i6 (w.m.va i), i6 (w.m.co i)]).den = (SV.agg [i6 (w.m.fr i), i6 (w.m.dr i), i6 (w.m.va i),
 i6 (w.m.co i)]).den ∧ True ∧ True ∧ True ∧ True ∧ True) ∧ True))) ∧ (¬(↑z : Int) < (↑w.m.1 : Int) → (true = true ↔ mayM w.m o.toNat) ∧ True)) := by kernel_rfl
theorem isG_vc (M : Nat) (w : Nw) (o : Int) (z : Int) : isG M w o z = ((z = (0 : Int) → (true = true ↔ onW w.m o.toNat z.toNat) ∧ True) ∧ (¬z = (0 : Int) → ((-9223372036854775808 : Int) ≤ z - (1 : Int) ∧ z - (1 : Int) ≤ (9223372036854775807 : Int)) ∧ (((0 : Int) ≤ o ∧ o ≤ (1099511627776 : Int)) ∧ (0 : Int) ≤ z - (1 : Int) ∧ z - (1 : Int) ≤ (40 : Int)) ∧ (hs o.toNat (z - (1 : Int)).toNat → (0 : Nat) < (1 : Nat) ∧ (0 : Nat) < (1 : Nat) ∧ ((-9223372036854775808 : Int) ≤ z - (1 : Int) ∧ z - (1 : Int) ≤ (9223372036854775807 : Int)) ∧ (0 : Int) ≤ z - (1 : Int) ∧ z - (1 : Int) < (↑w.m.1 : Int) ∧ (∀ (i : Nat), i < w.j.1 → True ∧ True ∧ True ∧ True ∧ True ∧ True) ∧ (∀ (i : Nat), i < w.m.1 → True ∧ True ∧ True ∧ True ∧ True) ∧ w.sv = w.sv ∧ (((0 : Int) ≤ o ∧ o ≤ (1099511627776 : Int)) ∧ w.m.1 ≤ (40 : Nat) ∧ okM w.m ∧ ((0 : Int) ≤ w.m.2 (z - (1 : Int)).toNat ∧ w.m.2 (z - (1 : Int)).toNat ≤ (↑w.m.1 : Int)) ∧ (w.m.2 (z - (1 : Int)).toNat).toNat < M) ∧ (onW w.m o.toNat (w.m.fr (z - (1 : Int)).toNat).toNat ↔ onW w.m o.toNat z.toNat) ∧ True) ∧ (¬hs o.toNat (z - (1 : Int)).toNat → (false = true ↔ onW w.m o.toNat z.toNat) ∧ True))) := by kernel_rfl
theorem behG_vc (M : Nat) (w : Nw) (q : Int) (z : Int) : behG M w q z = (((-9223372036854775808 : Int) ≤ q + (1 : Int) ∧ q + (1 : Int) ≤ (9223372036854775807 : Int)) ∧ (z = q + (1 : Int) → (true = true ↔ behW w.m q.toNat z.toNat) ∧ True) ∧ (¬z = q + (1 : Int) → ((0 : Int) < z → (0 : Nat) < (1 : Nat) ∧ (0 : Nat) < (1 : Nat) ∧ ((-9223372036854775808 : Int) ≤ z - (1 : Int) ∧ z - (1 : Int) ≤ (9223372036854775807 : Int)) ∧ (0 : Int) ≤ z - (1 : Int) ∧ z - (1 : Int) < (↑w.m.1 : Int) ∧ (∀ (i : Nat), i < w.j.1 → True ∧ True ∧ True ∧ True ∧ True ∧ True) ∧ (∀ (i : Nat), i < w.m.1 → True ∧ True ∧ True ∧ True ∧ True) ∧ w.sv = w.sv ∧ (((0 : Int) ≤ q ∧ q ≤ (40 : Int)) ∧ w.m.1 ≤ (40 : Nat) ∧ okM w.m ∧ ((0 : Int) ≤ w.m.2 (z - (1 : Int)).toNat ∧ w.m.2 (z - (1 : Int)).toNat ≤ (↑w.m.1 : Int)) ∧ (w.m.2 (z - (1 : Int)).toNat).toNat < M) ∧ (behW w.m q.toNat (w.m.fr (z - (1 : Int)).toNat).toNat ↔ behW w.m q.toNat z.toNat) ∧ True) ∧ (¬(0 : Int) < z → (false = true ↔ behW w.m q.toNat z.toNat) ∧ True))) := by kernel_rfl
theorem thrG_vc (w : Nw) (o : Int) (q : Int) (d : Nat → Int) : thrG w o q d = ((∃ (z : Nat), z ≤ w.j.1 ∧ o = o ∧ q = q ∧ w.j.1 = w.j.1 ∧ (∀ (i : Nat), i < w.j.1 → (i6 (d i)).den = (i6 (d i)).den ∧ True) ∧ (0 : Nat) = (0 : Nat) ∧ (0 : Nat) = (0 : Nat) ∧ (0 : Int) = (0 : Int) ∧ (0 : Int) = thr w.m o.toNat q.toNat d z ∧ (0 : Int) = (↑z : Int) ∧ w.1 = w.1 ∧ w.2 = w.2 ∧ w.j.1 = w.j.1 ∧ (∀ (i : Nat), i < w.j.1 → (SV.agg [i6 (w.j.nl i), i6 (w.j.nh i), i6 (w.j.le i), i6 (w.j.mo i), i6 (w.j.go i)]).den = (SV.agg [i6 (w.j.nl i), i6 (w.j.nh i), i6 (w.j.le i), i6 (w.j.mo i), i6 (w.j.go i)]).den ∧ True ∧ True ∧ True ∧ True ∧ True ∧ True) ∧ w.m.1 = w.m.1 ∧ (∀ (i : Nat), i < w.m.1 → (SV.agg [i6 (w.m.fr i), i6 (w.m.dr i), i6 (w.m.va i), i6 (w.m.co i)]).den = (SV.agg [i6 (w.m.fr i), i6 (w.m.dr i), i6 (w.m.va i), i6 (w.m.co i)]).den ∧ True ∧ True ∧ True ∧ True ∧ True) ∧ True) ∧ ∀ (z : Nat), z ≤ w.j.1 → (0 : Nat) < (1 : Nat) ∧ ((↑z : Int) < (↑w.j.1 : Int) → (0 : Nat) < (1 : Nat) ∧ (∀ (i : Nat), i < w.j.1 → True ∧ True ∧ True ∧ True ∧ True ∧ True) ∧ (∀ (i : Nat), i < w.m.1 → True ∧ True ∧ True ∧ True ∧ True) ∧ w.sv = w.sv ∧ (((0 : Int) ≤ q ∧ q ≤ (40 : Int)) ∧ w.m.1 ≤ (40 : Nat) ∧ okM w.m ∧ ((0 : Int) ≤ (↑z : Int) ∧ (↑z : Int) ≤ (↑w.m.1 : Int)) ∧ (↑z : Int).toNat < (100 : Nat)) ∧ (behW w.m q.toNat (↑z : Int).toNat → (0 : Nat) < (1 : Nat) ∧ (∀ (i : Nat), i < w.j.1 → True ∧ True ∧ True ∧ True ∧ True ∧ True) ∧ (∀ (i : Nat), i < w.m.1 → True ∧ True ∧ True ∧ True ∧ True) ∧ w.sv = w.sv ∧ (((0 : Int) ≤ o ∧ o ≤ (1099511627776 : Int)) ∧ w.m.1 ≤ (40 : Nat) ∧ okM w.m ∧ ((0 : Int) ≤ (↑z : Int) ∧ (↑z : Int) ≤ (↑w.m.1 : Int)) ∧ (↑z : Int).toNat < (100 : Nat)) ∧ (onW w.m o.toNat (↑z : Int).toNat → (0 : Int) ≤ (↑z : Int) ∧ (↑z : Int) < (↑w.j.1 : Int) ∧ ((-9223372036854775808 : Int) ≤
 thr w.m o.toNat q.toNat d z + d (↑z : Int).toNat ∧ thr w.m o.toNat q.toNat d z + d (↑z : Int).toNat ≤ (9223372036854775807 : Int)) ∧ ((-9223372036854775808 : Int) ≤ (↑z : Int) + (1 : Int) ∧ (↑z : Int) + (1 : Int) ≤ (9223372036854775807 : Int)) ∧ ∃ (z_1 : Nat), z_1 ≤ w.j.1 ∧ w.j.1 - z_1 < w.j.1 - z ∧ o = o ∧ q = q ∧ w.j.1 = w.j.1 ∧ (∀ (i : Nat), i < w.j.1 → (i6 (d i)).den = (i6 (d i)).den ∧ True) ∧ (0 : Nat) = (0 : Nat) ∧ (0 : Nat) = (0 : Nat) ∧ (0 : Int) = (0 : Int) ∧ thr w.m o.toNat q.toNat d z + d (↑z : Int).toNat = thr w.m o.toNat q.toNat d z_1 ∧ (↑z : Int) + (1 : Int) = (↑z_1 : Int) ∧ w.1 = w.1 ∧ w.2 = w.2 ∧ w.j.1 = w.j.1 ∧ (∀ (i : Nat), i < w.j.1 → (SV.agg [i6 (w.j.nl i), i6 (w.j.nh i), i6 (w.j.le i), i6 (w.j.mo i), i6 (w.j.go i)]).den = (SV.agg [i6 (w.j.nl i), i6 (w.j.nh i), i6 (w.j.le i), i6 (w.j.mo i), i6 (w.j.go i)]).den ∧ True ∧ True ∧ True ∧ True ∧ True ∧ True) ∧ w.m.1 = w.m.1 ∧ (∀ (i : Nat), i < w.m.1 → (SV.agg [i6 (w.m.fr i), i6 (w.m.dr i), i6 (w.m.va i), i6 (w.m.co i)]).den = (SV.agg [i6 (w.m.fr i), i6 (w.m.dr i), i6 (w.m.va i), i6 (w.m.co i)]).den ∧ True ∧ True ∧ True ∧ True ∧ True) ∧ True) ∧ (¬onW w.m o.toNat (↑z : Int).toNat → ((-9223372036854775808 : Int) ≤ (↑z : Int) + (1 : Int) ∧ (↑z : Int) + (1 : Int) ≤ (9223372036854775807 : Int)) ∧ ∃ (z_1 : Nat), z_1 ≤ w.j.1 ∧ w.j.1 - z_1 < w.j.1 - z ∧ o = o ∧ q = q ∧ w.j.1 = w.j.1 ∧ (∀ (i : Nat), i < w.j.1 → (i6 (d i)).den = (i6 (d i)).den ∧ True) ∧ (0 : Nat) = (0 : Nat) ∧ (0 : Nat) = (0 : Nat) ∧ (0 : Int) = (0 : Int) ∧ thr w.m o.toNat q.toNat d z = thr w.m o.toNat q.toNat d z_1 ∧ (↑z : Int) + (1 : Int) = (↑z_1 : Int) ∧ w.1 = w.1 ∧ w.2 = w.2 ∧ w.j.1 = w.j.1 ∧ (∀ (i : Nat), i < w.j.1 → (SV.agg [i6 (w.j.nl i), i6 (w.j.nh i), i6 (w.j.le i), i6 (w.j.mo i), i6 (w.j.go i)]).den = (SV.agg
 [i6 (w.j.nl i), i6 (w.j.nh i), i6 (w.j.le i), i6 (w.j.mo i), i6 (w.j.go i)]).den ∧ True ∧ True ∧ True ∧ True ∧ True ∧ True) ∧ w.m.1 = w.m.1 ∧ (∀ (i : Nat), i < w.m.1 → (SV.agg [i6 (w.m.fr i), i6 (w.m.dr i), i6 (w.m.va i), i6 (w.m.co i)]).den = (SV.agg [i6 (w.m.fr i), i6 (w.m.dr i), i6 (w.m.va i), i6 (w.m.co i)]).den ∧ True ∧ True ∧ True ∧ True ∧ True) ∧ True)) ∧ (¬behW w.m q.toNat (↑z : Int).toNat → ((-9223372036854775808 : Int) ≤ (↑z : Int) + (1 : Int) ∧ (↑z : Int) + (1 : Int) ≤ (9223372036854775807 : Int)) ∧ ∃ (z_1 : Nat), z_1 ≤ w.j.1 ∧ w.j.1 - z_1 < w.j.1 - z ∧ o = o ∧ q = q ∧ w.j.1 = w.j.1 ∧ (∀ (i : Nat), i < w.j.1 → (i6 (d i)).den = (i6 (d i)).den ∧ True) ∧ (0 : Nat) = (0 : Nat) ∧ (0 : Nat) = (0 : Nat) ∧ (0 : Int) = (0 : Int) ∧ thr w.m o.toNat q.toNat d z = thr w.m o.toNat q.toNat d z_1 ∧ (↑z : Int) + (1 : Int) = (↑z_1 : Int) ∧ w.1 = w.1 ∧ w.2 = w.2 ∧ w.j.1 = w.j.1 ∧ (∀ (i : Nat), i < w.j.1 → (SV.agg [i6 (w.j.nl i), i6 (w.j.nh i), i6 (w.j.le i), i6 (w.j.mo i), i6 (w.j.go i)]).den = (SV.agg [i6 (w.j.nl i), i6 (w.j.nh i), i6 (w.j.le i), i6 (w.j.mo i), i6 (w.j.go i)]).den ∧ True ∧ True ∧ True ∧ True ∧ True ∧ True) ∧ w.m.1 = w.m.1 ∧ (∀ (i : Nat), i < w.m.1 → (SV.agg [i6 (w.m.fr i), i6 (w.m.dr i), i6 (w.m.va i), i6 (w.m.co i)]).den = (SV.agg [i6 (w.m.fr i), i6 (w.m.dr i), i6 (w.m.va i), i6 (w.m.co i)]).den ∧ True ∧ True ∧ True ∧ True ∧ True) ∧ True)) ∧ (¬(↑z : Int) < (↑w.j.1 : Int) → thr w.m o.toNat q.toNat d z = thr w.m o.toNat q.toNat d w.j.1 ∧ True)) := by kernel_rfl
theorem atRG_vc (M : Nat) (w : Nw) (o : Int) (z : Int) (d : Nat → Int) (s : Int) : atRG M w o z d s = (((0 : Int) < z → (0 : Nat) < (1 : Nat) ∧ ((-9223372036854775808 : Int) ≤ z - (1 : Int) ∧ z - (1 : Int) ≤ (9223372036854775807 : Int)) ∧ (0 : Int) ≤ z - (1 : Int) ∧ z - (1 : Int) < (↑w.m.1 : Int) ∧ (0 : Nat) < (1 : Nat) ∧ (0 : Nat) < (1 : Nat) ∧ (∀ (i : Nat), i < w.j.1 → True ∧ True ∧ True ∧ True ∧ True ∧ True) ∧ (∀ (i : Nat), i < w.m.1 → True ∧ True ∧ True ∧ True ∧ True) ∧ (∀ (i : Nat), i < w.j.1 → True) ∧ w.sv = w.sv ∧ ((fun (i : Nat) => i6 (d i)) = fun (i : Nat) => i6 (prI (i6 (d i)))) ∧ (okNet w ∧ ((0 : Int) ≤ o ∧ o ≤ (1099511627776 : Int)) ∧ ((0 : Int) ≤ w.m.2 (z - (1 : Int)).toNat ∧ w.m.2 (z - (1 : Int)).toNat < (↑w.j.1 : Int)) ∧ w.j.1 = w.j.1 ∧ dOK w.j.n d ∧ ((0 : Int) ≤ s ∧ s ≤ (1099511627776 : Int)) ∧ (w.m.2 (z - (1 : Int)).toNat).toNat < M) ∧ (0 : Nat) < (1 : Nat) ∧ (0 : Nat) < (1 : Nat) ∧ ((-9223372036854775808 : Int) ≤ z - (1 : Int) ∧ z - (1 : Int) ≤ (9223372036854775807 : Int)) ∧ (∀ (i : Nat), i < w.j.1 → True ∧ True ∧ True ∧ True ∧ True ∧ True) ∧ (∀ (i : Nat), i < w.m.1 → True ∧ True ∧ True ∧ True ∧ True) ∧ (∀ (i : Nat), i < w.j.1 → True) ∧ w.sv = w.sv ∧ ((fun (i : Nat) => i6 (d i)) = fun (i : Nat) => i6 (prI (i6 (d i)))) ∧ (okNet w ∧ ((0 : Int) ≤ o ∧ o ≤ (1099511627776 : Int)) ∧ ((0 : Int) ≤ z - (1 : Int) ∧ z - (1 : Int) < (↑w.m.1 : Int)) ∧ w.j.1 = w.j.1 ∧ dOK w.j.n d) ∧ ((-9223372036854775808 : Int) ≤ w.m.3 (z - (1 : Int)).toNat * thr w.m o.toNat (z - (1 : Int)).toNat d w.j.1 ∧ w.m.3 (z - (1 : Int)).toNat * thr w.m o.toNat (z - (1 : Int)).toNat d w.j.1 ≤ (9223372036854775807 : Int)) ∧ ((-9223372036854775808 : Int) ≤ atS w o.toNat d s (w.m.2 (z - (1 : Int)).toNat).toNat - w.m.3 (z - (1 : Int)).toNat * thr w.m o.toNat (z - (1 : Int)).toNat d w.j.1 ∧
 atS w o.toNat d s (w.m.2 (z - (1 : Int)).toNat).toNat - w.m.3 (z - (1 : Int)).toNat * thr w.m o.toNat (z - (1 : Int)).toNat d w.j.1 ≤ (9223372036854775807 : Int)) ∧ (0 : Nat) < (1 : Nat) ∧ (0 : Int) ≤ z ∧ z < (↑w.j.1 : Int) ∧ (¬w.j.6 z.toNat = (-1 : Int) → min (atS w o.toNat d s (w.m.2 (z - (1 : Int)).toNat).toNat - w.m.3 (z - (1 : Int)).toNat * thr w.m o.toNat (z - (1 : Int)).toNat d w.j.1) (w.j.6 z.toNat) = atS w o.toNat d s z.toNat ∧ True) ∧ (¬¬w.j.6 z.toNat = (-1 : Int) → atS w o.toNat d s (w.m.2 (z - (1 : Int)).toNat).toNat - w.m.3 (z - (1 : Int)).toNat * thr w.m o.toNat (z - (1 : Int)).toNat d w.j.1 = atS w o.toNat d s z.toNat ∧ True)) ∧ (¬(0 : Int) < z → (0 : Nat) < (1 : Nat) ∧ (0 : Int) ≤ z ∧ z < (↑w.j.1 : Int) ∧ (¬w.j.6 z.toNat = (-1 : Int) → min s (w.j.6 z.toNat) = atS w o.toNat d s z.toNat ∧ True) ∧ (¬¬w.j.6 z.toNat = (-1 : Int) → s = atS w o.toNat d s z.toNat ∧ True))) := by kernel_rfl
theorem prsRG_vc (w : Nw) (z : Int) : prsRG w z = (((0 : Nat) < (1 : Nat) ∧ ((0 : Int) < (↑w.j.1 : Int) → (0 : Nat) < (1 : Nat) ∧ (0 : Int) ≤ (0 : Int) ∧ (0 : Int) < (↑w.j.1 : Int) ∧ True ∧ (∀ (i : Nat), i < (1 : Nat) → true = true) ∧ (1 : Nat) * (8 : Nat) ≤ (140737488355328 : Nat) ∧ (1 : Nat) ≤ (4611686018427387904 : Nat) ∧ (0 : Nat) < (1 : Nat) ∧ (0 : Int) ≤ (0 : Int) ∧ (0 : Int) < (↑w.j.1 : Int) ∧ True ∧ (∀ (i : Nat), i < (1 : Nat) → true = true) ∧ (1 : Nat) * (8 : Nat) ≤ (140737488355328 : Nat) ∧ (1 : Nat) ≤ (4611686018427387904 : Nat) ∧ ((-9223372036854775808 : Int) ≤ (0 : Int) + (1 : Int) ∧ (0 : Int) + (1 : Int) ≤ (9223372036854775807 : Int)) ∧ ∃ (z_1 : Nat), z_1 ≤ w.j.1 ∧ w.j.1 - z_1 < w.j.1 + (1 : Nat) ∧ z = z ∧ (0 : Nat) = (0 : Nat) ∧ (0 : Nat) = (0 : Nat) ∧ (0 : Nat) = (0 : Nat) ∧ (0 : Nat) = (0 : Nat) ∧ false = false ∧ (0 : Nat) = (0 : Nat) ∧ (1 : Nat) = z_1 ∧ (0 : Nat) = (0 : Nat) ∧ (1 : Nat) = z_1 ∧ (0 : Int) + (1 : Int) = (↑z_1 : Int) ∧ w.1 = w.1 ∧ w.2 = w.2 ∧ w.j.1 = w.j.1 ∧ (∀ (i : Nat), i < w.j.1 → (SV.agg [i6 (w.j.nl i), i6 (w.j.nh i), i6 (w.j.le i), i6 (w.j.mo i), i6 (w.j.go i)]).den = (SV.agg [i6 (w.j.nl i), i6 (w.j.nh i), i6 (w.j.le i), i6 (w.j.mo i), i6 (w.j.go i)]).den ∧ True ∧ True ∧ True ∧ True ∧ True ∧ True) ∧ w.m.1 = w.m.1 ∧ (∀ (i : Nat), i < w.m.1 → (SV.agg [i6 (w.m.fr i), i6 (w.m.dr i), i6 (w.m.va i), i6 (w.m.co i)]).den = (SV.agg [i6 (w.m.fr i), i6 (w.m.dr i), i6 (w.m.va i), i6 (w.m.co i)]).den ∧ True ∧ True ∧ True ∧ True ∧ True) ∧ (0 : Int) = (0 : Int) ∧ (0 : Int) = (0 : Int) ∧ z_1 = (1 : Nat) ∧ (∀ (i : Nat), i < z_1 → (1 : Nat) = (1 : Nat) ∧ w.j.2 (Int.toNat (0 : Int)) = w.j.2 i ∧ True) ∧ z_1 = (1 : Nat) ∧ (∀ (i : Nat), i < z_1 → (1 : Nat) = (1 : Nat) ∧ w.j.3 (Int.toNat (0 : Int)) = w.j.3 i ∧ True) ∧ True) ∧
 (¬(0 : Int) < (↑w.j.1 : Int) → (∃ (z : Nat), z ≤ pw w.m.1 ∧ False) ∧ ∀ (z_1 : Nat), z_1 ≤ pw w.m.1 → (0 : Nat) < (1 : Nat) ∧ ((0 : Int) ≤ (↑w.m.1 : Int) ∧ (↑w.m.1 : Int) ≤ (40 : Int)) ∧ ((↑z_1 : Int) < (↑(pw (↑w.m.1 : Int).toNat) : Int) → (0 : Nat) < (1 : Nat) ∧ (∀ (i : Nat), i < w.j.1 → True ∧ True ∧ True ∧ True ∧ True ∧ True) ∧ (∀ (i : Nat), i < w.m.1 → True ∧ True ∧ True ∧ True ∧ True) ∧ w.sv = w.sv ∧ (((0 : Int) ≤ (↑z_1 : Int) ∧ (↑z_1 : Int) ≤ (1099511627776 : Int)) ∧ w.m.1 ≤ (40 : Nat)) ∧ (¬mayM w.m (↑z_1 : Int).toNat → ((-9223372036854775808 : Int) ≤ (↑z_1 : Int) + (1 : Int) ∧ (↑z_1 : Int) + (1 : Int) ≤ (9223372036854775807 : Int)) ∧ ∃ (z_2 : Nat), z_2 ≤ pw w.m.1 ∧ pw w.m.1 - z_2 < pw w.m.1 - z_1 ∧ z = z ∧ (0 : Nat) = (0 : Nat) ∧ (0 : Nat) = (0 : Nat) ∧ (0 : Nat) = (0 : Nat) ∧ (0 : Nat) = (0 : Nat) ∧ false = false ∧ (0 : Nat) = (0 : Nat) ∧ w.j.1 = w.j.1 ∧ (0 : Nat) = (0 : Nat) ∧ w.j.1 = w.j.1 ∧ (0 : Nat) = (0 : Nat) ∧ (0 : Nat) = (0 : Nat) ∧ (fndR w z.toNat z_1 ↔ fndR w z.toNat z_2) ∧ (↑z_1 : Int) + (1 : Int) = (↑z_2 : Int) ∧ w.1 = w.1 ∧ w.2 = w.2 ∧ w.j.1 = w.j.1 ∧ (∀ (i : Nat), i < w.j.1 → (SV.agg [i6 (w.j.nl i), i6 (w.j.nh i), i6 (w.j.le i), i6 (w.j.mo i), i6 (w.j.go i)]).den = (SV.agg [i6 (w.j.nl i), i6 (w.j.nh i), i6 (w.j.le i), i6 (w.j.mo i), i6 (w.j.go i)]).den ∧ True ∧ True ∧ True ∧ True ∧ True ∧ True) ∧ w.m.1 = w.m.1 ∧ (∀ (i : Nat), i < w.m.1 → (SV.agg [i6 (w.m.fr i), i6 (w.m.dr i), i6 (w.m.va i), i6 (w.m.co i)]).den = (SV.agg [i6 (w.m.fr i), i6 (w.m.dr i), i6 (w.m.va i), i6 (w.m.co i)]).den ∧ True ∧ True ∧ True ∧ True ∧ True) ∧ (0 : Int) = (0 : Int) ∧ (0 : Int) = (0 : Int) ∧ w.j.1 = w.j.1 ∧ (∀ (i : Nat), i < w.j.1 → (1 : Nat) = (1 : Nat) ∧ w.j.2 i = w.j.2 i ∧ True) ∧ w.j.1 = w.j.1 ∧ (∀ (i : Nat), i < w.j.1 → (1 : Nat) = (1 : Nat) ∧ w.j.3 i = w.j.3 i ∧
 True) ∧ loR w z.toNat z_1 = loR w z.toNat z_2 ∧ upR w z.toNat z_1 = upR w z.toNat z_2 ∧ True) ∧ (¬¬mayM w.m (↑z_1 : Int).toNat → (0 : Nat) < (1 : Nat) ∧ (∀ (i : Nat), i < w.j.1 → True ∧ True ∧ True ∧ True ∧ True ∧ True) ∧ (∀ (i : Nat), i < w.m.1 → True ∧ True ∧ True ∧ True ∧ True) ∧ w.sv = w.sv ∧ (((0 : Int) ≤ (↑z_1 : Int) ∧ (↑z_1 : Int) ≤ (1099511627776 : Int)) ∧ w.m.1 ≤ (40 : Nat) ∧ okM w.m ∧ ((0 : Int) ≤ z ∧ z ≤ (↑w.m.1 : Int)) ∧ z.toNat < (100 : Nat)) ∧ (¬onW w.m (↑z_1 : Int).toNat z.toNat → ((-9223372036854775808 : Int) ≤ (↑z_1 : Int) + (1 : Int) ∧ (↑z_1 : Int) + (1 : Int) ≤ (9223372036854775807 : Int)) ∧ ∃ (z_2 : Nat), z_2 ≤ pw w.m.1 ∧ pw w.m.1 - z_2 < pw w.m.1 - z_1 ∧ z = z ∧ (0 : Nat) = (0 : Nat) ∧ (0 : Nat) = (0 : Nat) ∧ (0 : Nat) = (0 : Nat) ∧ (0 : Nat) = (0 : Nat) ∧ false = false ∧ (0 : Nat) = (0 : Nat) ∧ w.j.1 = w.j.1 ∧ (0 : Nat) = (0 : Nat) ∧ w.j.1 = w.j.1 ∧ (0 : Nat) = (0 : Nat) ∧ (0 : Nat) = (0 : Nat) ∧ (fndR w z.toNat z_1 ↔ fndR w z.toNat z_2) ∧ (↑z_1 : Int) + (1 : Int) = (↑z_2 : Int) ∧ w.1 = w.1 ∧ w.2 = w.2 ∧ w.j.1 = w.j.1 ∧ (∀ (i : Nat), i < w.j.1 → (SV.agg [i6 (w.j.nl i), i6 (w.j.nh i), i6 (w.j.le i), i6 (w.j.mo i), i6 (w.j.go i)]).den = (SV.agg [i6 (w.j.nl i), i6 (w.j.nh i), i6 (w.j.le i), i6 (w.j.mo i), i6 (w.j.go i)]).den ∧ True ∧ True ∧ True ∧ True ∧ True ∧ True) ∧ w.m.1 = w.m.1 ∧ (∀ (i : Nat), i < w.m.1 → (SV.agg [i6 (w.m.fr i), i6 (w.m.dr i), i6 (w.m.va i), i6 (w.m.co i)]).den = (SV.agg [i6 (w.m.fr i), i6 (w.m.dr i), i6 (w.m.va i), i6 (w.m.co i)]).den ∧ True ∧ True ∧ True ∧ True ∧ True) ∧ (0 : Int) = (0 : Int) ∧ (0 : Int) = (0 : Int) ∧ w.j.1 = w.j.1 ∧ (∀ (i : Nat), i < w.j.1 → (1 : Nat) = (1 : Nat) ∧ w.j.2 i = w.j.2 i ∧ True) ∧ w.j.1 = w.j.1 ∧ (∀ (i : Nat), i < w.j.1 → (1 : Nat) = (1 : Nat) ∧ w.j.3 i = w.j.3 i ∧ True) ∧ loR w z.toNat z_1 =
 loR w z.toNat z_2 ∧ upR w z.toNat z_1 = upR w z.toNat z_2 ∧ True) ∧ (¬¬onW w.m (↑z_1 : Int).toNat z.toNat → (0 : Nat) < (1 : Nat) ∧ (0 : Nat) < (1 : Nat) ∧ (∀ (i : Nat), i < w.j.1 → True ∧ True ∧ True ∧ True ∧ True ∧ True) ∧ (∀ (i : Nat), i < w.m.1 → True ∧ True ∧ True ∧ True ∧ True) ∧ (0 : Nat) + w.j.1 ≤ w.j.1 ∧ (∀ (i : Nat), i < w.j.1 → (1 : Nat) = (1 : Nat) ∧ True) ∧ w.sv = w.sv ∧ ((fun (i : Nat) => i6 (w.j.nh (i + (0 : Nat)))) = fun (i : Nat) => i6 (prI (i6 (w.j.nh (i + (0 : Nat)))))) ∧ (okNet w ∧ ((0 : Int) ≤ (↑z_1 : Int) ∧ (↑z_1 : Int) ≤ (1099511627776 : Int)) ∧ ((0 : Int) ≤ z ∧ z < (↑w.j.1 : Int)) ∧ w.j.1 = w.j.1 ∧ (dOK w.j.n fun (i : Nat) => w.j.nh (i + (0 : Nat))) ∧ ((0 : Int) ≤ w.1 ∧ w.1 ≤ (1099511627776 : Int)) ∧ z.toNat < (100 : Nat)) ∧ (0 : Nat) < (1 : Nat) ∧ (0 : Nat) < (1 : Nat) ∧ (∀ (i : Nat), i < w.j.1 → True ∧ True ∧ True ∧ True ∧ True ∧ True) ∧ (∀ (i : Nat), i < w.m.1 → True ∧ True ∧ True ∧ True ∧ True) ∧ (0 : Nat) + w.j.1 ≤ w.j.1 ∧ (∀ (i : Nat), i < w.j.1 → (1 : Nat) = (1 : Nat) ∧ True) ∧ w.sv = w.sv ∧ ((fun (i : Nat) => i6 (w.j.nl (i + (0 : Nat)))) = fun (i : Nat) => i6 (prI (i6 (w.j.nl (i + (0 : Nat)))))) ∧ (okNet w ∧ ((0 : Int) ≤ (↑z_1 : Int) ∧ (↑z_1 : Int) ≤ (1099511627776 : Int)) ∧ ((0 : Int) ≤ z ∧ z < (↑w.j.1 : Int)) ∧ w.j.1 = w.j.1 ∧ (dOK w.j.n fun (i : Nat) => w.j.nl (i + (0 : Nat))) ∧ ((0 : Int) ≤ w.2 ∧ w.2 ≤ (1099511627776 : Int)) ∧ z.toNat < (100 : Nat)) ∧ (¬fndR w z.toNat z_1 → (0 : Nat) < (1 : Nat) ∧ (0 : Nat) < (1 : Nat) ∧ ((-9223372036854775808 : Int) ≤ (↑z_1 : Int) + (1 : Int) ∧ (↑z_1 : Int) + (1 : Int) ≤ (9223372036854775807 : Int)) ∧ ∃ (z_2 : Nat), z_2 ≤ pw w.m.1 ∧ pw w.m.1 - z_2 < pw w.m.1 - z_1 ∧ z = z ∧ (0 : Nat) = (0 : Nat) ∧ (0 : Nat) = (0 : Nat) ∧ (0 : Nat) = (0 : Nat) ∧ (0 : Nat) = (0 : Nat) ∧ false = false ∧ (0 : Nat) =
 (0 : Nat) ∧ w.j.1 = w.j.1 ∧ (0 : Nat) = (0 : Nat) ∧ w.j.1 = w.j.1 ∧ (0 : Nat) = (0 : Nat) ∧ (0 : Nat) = (0 : Nat) ∧ (true = true ↔ fndR w z.toNat z_2) ∧ (↑z_1 : Int) + (1 : Int) = (↑z_2 : Int) ∧ w.1 = w.1 ∧ w.2 = w.2 ∧ w.j.1 = w.j.1 ∧ (∀ (i : Nat), i < w.j.1 → (SV.agg [i6 (w.j.nl i), i6 (w.j.nh i), i6 (w.j.le i), i6 (w.j.mo i), i6 (w.j.go i)]).den = (SV.agg [i6 (w.j.nl i), i6 (w.j.nh i), i6 (w.j.le i), i6 (w.j.mo i), i6 (w.j.go i)]).den ∧ True ∧ True ∧ True ∧ True ∧ True ∧ True) ∧ w.m.1 = w.m.1 ∧ (∀ (i : Nat), i < w.m.1 → (SV.agg [i6 (w.m.fr i), i6 (w.m.dr i), i6 (w.m.va i), i6 (w.m.co i)]).den = (SV.agg [i6 (w.m.fr i), i6 (w.m.dr i), i6 (w.m.va i), i6 (w.m.co i)]).den ∧ True ∧ True ∧ True ∧ True ∧ True) ∧ (0 : Int) = (0 : Int) ∧ (0 : Int) = (0 : Int) ∧ w.j.1 = w.j.1 ∧ (∀ (i : Nat), i < w.j.1 → (1 : Nat) = (1 : Nat) ∧ w.j.2 i = w.j.2 i ∧ True) ∧ w.j.1 = w.j.1 ∧ (∀ (i : Nat), i < w.j.1 → (1 : Nat) = (1 : Nat) ∧ w.j.3 i = w.j.3 i ∧ True) ∧ min (atS w (↑z_1 : Int).toNat (fun (i : Nat) => w.j.nh (i + (0 : Nat))) w.1 z.toNat) (atS w (↑z_1 : Int).toNat (fun (i : Nat) => w.j.nh (i + (0 : Nat))) w.1 z.toNat) = loR w z.toNat z_2 ∧ max (atS w (↑z_1 : Int).toNat (fun (i : Nat) => w.j.nl (i + (0 : Nat))) w.2 z.toNat) (atS w (↑z_1 : Int).toNat (fun (i : Nat) => w.j.nl (i + (0 : Nat))) w.2 z.toNat) = upR w z.toNat z_2 ∧ True) ∧ (¬¬fndR w z.toNat z_1 → (0 : Nat) < (1 : Nat) ∧ (0 : Nat) < (1 : Nat) ∧ ((-9223372036854775808 : Int) ≤ (↑z_1 : Int) + (1 : Int) ∧ (↑z_1 : Int) + (1 : Int) ≤ (9223372036854775807 : Int)) ∧ ∃ (z_2 : Nat), z_2 ≤ pw w.m.1 ∧ pw w.m.1 - z_2 < pw w.m.1 - z_1 ∧ z = z ∧ (0 : Nat) = (0 : Nat) ∧ (0 : Nat) = (0 : Nat) ∧ (0 : Nat) = (0 : Nat) ∧ (0 : Nat) = (0 : Nat) ∧ false = false ∧ (0 : Nat) = (0 : Nat) ∧ w.j.1 = w.j.1 ∧ (0 : Nat) = (0 : Nat) ∧ w.j.1 = w.j.1 ∧ (0 :
 Nat) = (0 : Nat) ∧ (0 : Nat) = (0 : Nat) ∧ (true = true ↔ fndR w z.toNat z_2) ∧ (↑z_1 : Int) + (1 : Int) = (↑z_2 : Int) ∧ w.1 = w.1 ∧ w.2 = w.2 ∧ w.j.1 = w.j.1 ∧ (∀ (i : Nat), i < w.j.1 → (SV.agg [i6 (w.j.nl i), i6 (w.j.nh i), i6 (w.j.le i), i6 (w.j.mo i), i6 (w.j.go i)]).den = (SV.agg [i6 (w.j.nl i), i6 (w.j.nh i), i6 (w.j.le i), i6 (w.j.mo i), i6 (w.j.go i)]).den ∧ True ∧ True ∧ True ∧ True ∧ True ∧ True) ∧ w.m.1 = w.m.1 ∧ (∀ (i : Nat), i < w.m.1 → (SV.agg [i6 (w.m.fr i), i6 (w.m.dr i), i6 (w.m.va i), i6 (w.m.co i)]).den = (SV.agg [i6 (w.m.fr i), i6 (w.m.dr i), i6 (w.m.va i), i6 (w.m.co i)]).den ∧ True ∧ True ∧ True ∧ True ∧ True) ∧ (0 : Int) = (0 : Int) ∧ (0 : Int) = (0 : Int) ∧ w.j.1 = w.j.1 ∧ (∀ (i : Nat), i < w.j.1 → (1 : Nat) = (1 : Nat) ∧ w.j.2 i = w.j.2 i ∧ True) ∧ w.j.1 = w.j.1 ∧ (∀ (i : Nat), i < w.j.1 → (1 : Nat) = (1 : Nat) ∧ w.j.3 i = w.j.3 i ∧ True) ∧ min (loR w z.toNat z_1) (atS w (↑z_1 : Int).toNat (fun (i : Nat) => w.j.nh (i + (0 : Nat))) w.1 z.toNat) = loR w z.toNat z_2 ∧ max (upR w z.toNat z_1) (atS w (↑z_1 : Int).toNat (fun (i : Nat) => w.j.nl (i + (0 : Nat))) w.2 z.toNat) = upR w z.toNat z_2 ∧ True)))) ∧ (¬(↑z_1 : Int) < (↑(pw (↑w.m.1 : Int).toNat) : Int) → (0 : Nat) < (1 : Nat) ∧ (0 : Nat) < (1 : Nat) ∧ loR w z.toNat z_1 = loR w z.toNat (pw w.m.1) ∧ upR w z.toNat z_1 = upR w z.toNat (pw w.m.1) ∧ (fndR w z.toNat z_1 ↔ fndR w z.toNat (pw w.m.n)) ∧ True))) ∧ ∀ (z_1 : Nat), z_1 ≤ w.j.1 → (0 : Nat) < (1 : Nat) ∧ ((↑z_1 : Int) < (↑w.j.1 : Int) → (0 : Nat) < (1 : Nat) ∧ (0 : Int) ≤ (↑z_1 : Int) ∧ (↑z_1 : Int) < (↑w.j.1 : Int) ∧ True ∧ (∀ (i : Nat), i < (1 : Nat) → true = true) ∧ (0 : Nat) = (0 : Nat) ∧ z_1 = z_1 ∧ (∀ (i : Nat), true = true) ∧ (z_1 + (1 : Nat)) * (8 : Nat) ≤ (140737488355328 : Nat) ∧ z_1 + (1 : Nat) ≤ (4611686018427387904 : Nat) ∧
 (0 : Nat) < (1 : Nat) ∧ (0 : Int) ≤ (↑z_1 : Int) ∧ (↑z_1 : Int) < (↑w.j.1 : Int) ∧ True ∧ (∀ (i : Nat), i < (1 : Nat) → true = true) ∧ (0 : Nat) = (0 : Nat) ∧ z_1 = z_1 ∧ (∀ (i : Nat), true = true) ∧ (z_1 + (1 : Nat)) * (8 : Nat) ≤ (140737488355328 : Nat) ∧ z_1 + (1 : Nat) ≤ (4611686018427387904 : Nat) ∧ ((-9223372036854775808 : Int) ≤ (↑z_1 : Int) + (1 : Int) ∧ (↑z_1 : Int) + (1 : Int) ≤ (9223372036854775807 : Int)) ∧ ∃ (z_2 : Nat), z_2 ≤ w.j.1 ∧ w.j.1 - z_2 < w.j.1 - z_1 ∧ z = z ∧ (0 : Nat) = (0 : Nat) ∧ (0 : Nat) = (0 : Nat) ∧ (0 : Nat) = (0 : Nat) ∧ (0 : Nat) = (0 : Nat) ∧ false = false ∧ (0 : Nat) = (0 : Nat) ∧ z_1 + (1 : Nat) = z_2 ∧ (0 : Nat) = (0 : Nat) ∧ z_1 + (1 : Nat) = z_2 ∧ (↑z_1 : Int) + (1 : Int) = (↑z_2 : Int) ∧ w.1 = w.1 ∧ w.2 = w.2 ∧ w.j.1 = w.j.1 ∧ (∀ (i : Nat), i < w.j.1 → (SV.agg [i6 (w.j.nl i), i6 (w.j.nh i), i6 (w.j.le i), i6 (w.j.mo i), i6 (w.j.go i)]).den = (SV.agg [i6 (w.j.nl i), i6 (w.j.nh i), i6 (w.j.le i), i6 (w.j.mo i), i6 (w.j.go i)]).den ∧ True ∧ True ∧ True ∧ True ∧ True ∧ True) ∧ w.m.1 = w.m.1 ∧ (∀ (i : Nat), i < w.m.1 → (SV.agg [i6 (w.m.fr i), i6 (w.m.dr i), i6 (w.m.va i), i6 (w.m.co i)]).den = (SV.agg [i6 (w.m.fr i), i6 (w.m.dr i), i6 (w.m.va i), i6 (w.m.co i)]).den ∧ True ∧ True ∧ True ∧ True ∧ True) ∧ (0 : Int) = (0 : Int) ∧ (0 : Int) = (0 : Int) ∧ z_2 = z_1 + (1 : Nat) ∧ (∀ (i : Nat), i < z_2 → (1 : Nat) = (1 : Nat) ∧ (if i < z_1 then w.j.2 i else w.j.2 (↑z_1 : Int).toNat) = w.j.2 i ∧ True) ∧ z_2 = z_1 + (1 : Nat) ∧ (∀ (i : Nat), i < z_2 → (1 : Nat) = (1 : Nat) ∧ (if i < z_1 then w.j.3 i else w.j.3 (↑z_1 : Int).toNat) = w.j.3 i ∧ True) ∧ True) ∧ (¬(↑z_1 : Int) < (↑w.j.1 : Int) → (∃ (z_2 : Nat), z_2 ≤ pw w.m.1 ∧ z = z ∧ (0 : Nat) = (0 : Nat) ∧ (0 : Nat) = (0 : Nat) ∧ (0 : Nat) = (0 : Nat) ∧ (0 : Nat) = (0 : Nat) ∧ false = false ∧
 (0 : Nat) = (0 : Nat) ∧ z_1 = w.j.1 ∧ (0 : Nat) = (0 : Nat) ∧ z_1 = w.j.1 ∧ (0 : Nat) = (0 : Nat) ∧ (0 : Nat) = (0 : Nat) ∧ (false = true ↔ fndR w z.toNat z_2) ∧ (0 : Int) = (↑z_2 : Int) ∧ w.1 = w.1 ∧ w.2 = w.2 ∧ w.j.1 = w.j.1 ∧ (∀ (i : Nat), i < w.j.1 → (SV.agg [i6 (w.j.nl i), i6 (w.j.nh i), i6 (w.j.le i), i6 (w.j.mo i), i6 (w.j.go i)]).den = (SV.agg [i6 (w.j.nl i), i6 (w.j.nh i), i6 (w.j.le i), i6 (w.j.mo i), i6 (w.j.go i)]).den ∧ True ∧ True ∧ True ∧ True ∧ True ∧ True) ∧ w.m.1 = w.m.1 ∧ (∀ (i : Nat), i < w.m.1 → (SV.agg [i6 (w.m.fr i), i6 (w.m.dr i), i6 (w.m.va i), i6 (w.m.co i)]).den = (SV.agg [i6 (w.m.fr i), i6 (w.m.dr i), i6 (w.m.va i), i6 (w.m.co i)]).den ∧ True ∧ True ∧ True ∧ True ∧ True) ∧ (0 : Int) = (0 : Int) ∧ (0 : Int) = (0 : Int) ∧ w.j.1 = z_1 ∧ (∀ (i : Nat), i < w.j.1 → (1 : Nat) = (1 : Nat) ∧ w.j.2 i = w.j.2 i ∧ True) ∧ w.j.1 = z_1 ∧ (∀ (i : Nat), i < w.j.1 → (1 : Nat) = (1 : Nat) ∧ w.j.3 i = w.j.3 i ∧ True) ∧ (0 : Int) = loR w z.toNat z_2 ∧ (0 : Int) = upR w z.toNat z_2 ∧ True) ∧ ∀ (z_2 : Nat), z_2 ≤ pw w.m.1 → (0 : Nat) < (1 : Nat) ∧ ((0 : Int) ≤ (↑w.m.1 : Int) ∧ (↑w.m.1 : Int) ≤ (40 : Int)) ∧ ((↑z_2 : Int) < (↑(pw (↑w.m.1 : Int).toNat) : Int) → (0 : Nat) < (1 : Nat) ∧ (∀ (i : Nat), i < w.j.1 → True ∧ True ∧ True ∧ True ∧ True ∧ True) ∧ (∀ (i : Nat), i < w.m.1 → True ∧ True ∧ True ∧ True ∧ True) ∧ w.sv = w.sv ∧ (((0 : Int) ≤ (↑z_2 : Int) ∧ (↑z_2 : Int) ≤ (1099511627776 : Int)) ∧ w.m.1 ≤ (40 : Nat)) ∧ (¬mayM w.m (↑z_2 : Int).toNat → ((-9223372036854775808 : Int) ≤ (↑z_2 : Int) + (1 : Int) ∧ (↑z_2 : Int) + (1 : Int) ≤ (9223372036854775807 : Int)) ∧ ∃ (z_3 : Nat), z_3 ≤ pw w.m.1 ∧ pw w.m.1 - z_3 < pw w.m.1 - z_2 ∧ z = z ∧ (0 : Nat) = (0 : Nat) ∧ (0 : Nat) = (0 : Nat) ∧ (0 : Nat) = (0 : Nat) ∧ (0 : Nat) = (0 : Nat) ∧ false = false ∧
 (0 : Nat) = (0 : Nat) ∧ w.j.1 = w.j.1 ∧ (0 : Nat) = (0 : Nat) ∧ w.j.1 = w.j.1 ∧ (0 : Nat) = (0 : Nat) ∧ (0 : Nat) = (0 : Nat) ∧ (fndR w z.toNat z_2 ↔ fndR w z.toNat z_3) ∧ (↑z_2 : Int) + (1 : Int) = (↑z_3 : Int) ∧ w.1 = w.1 ∧ w.2 = w.2 ∧ w.j.1 = w.j.1 ∧ (∀ (i : Nat), i < w.j.1 → (SV.agg [i6 (w.j.nl i), i6 (w.j.nh i), i6 (w.j.le i), i6 (w.j.mo i), i6 (w.j.go i)]).den = (SV.agg [i6 (w.j.nl i), i6 (w.j.nh i), i6 (w.j.le i), i6 (w.j.mo i), i6 (w.j.go i)]).den ∧ True ∧ True ∧ True ∧ True ∧ True ∧ True) ∧ w.m.1 = w.m.1 ∧ (∀ (i : Nat), i < w.m.1 → (SV.agg [i6 (w.m.fr i), i6 (w.m.dr i), i6 (w.m.va i), i6 (w.m.co i)]).den = (SV.agg [i6 (w.m.fr i), i6 (w.m.dr i), i6 (w.m.va i), i6 (w.m.co i)]).den ∧ True ∧ True ∧ True ∧ True ∧ True) ∧ (0 : Int) = (0 : Int) ∧ (0 : Int) = (0 : Int) ∧ w.j.1 = w.j.1 ∧ (∀ (i : Nat), i < w.j.1 → (1 : Nat) = (1 : Nat) ∧ w.j.2 i = w.j.2 i ∧ True) ∧ w.j.1 = w.j.1 ∧ (∀ (i : Nat), i < w.j.1 → (1 : Nat) = (1 : Nat) ∧ w.j.3 i = w.j.3 i ∧ True) ∧ loR w z.toNat z_2 = loR w z.toNat z_3 ∧ upR w z.toNat z_2 = upR w z.toNat z_3 ∧ True) ∧ (¬¬mayM w.m (↑z_2 : Int).toNat → (0 : Nat) < (1 : Nat) ∧ (∀ (i : Nat), i < w.j.1 → True ∧ True ∧ True ∧ True ∧ True ∧ True) ∧ (∀ (i : Nat), i < w.m.1 → True ∧ True ∧ True ∧ True ∧ True) ∧ w.sv = w.sv ∧ (((0 : Int) ≤ (↑z_2 : Int) ∧ (↑z_2 : Int) ≤ (1099511627776 : Int)) ∧ w.m.1 ≤ (40 : Nat) ∧ okM w.m ∧ ((0 : Int) ≤ z ∧ z ≤ (↑w.m.1 : Int)) ∧ z.toNat < (100 : Nat)) ∧ (¬onW w.m (↑z_2 : Int).toNat z.toNat → ((-9223372036854775808 : Int) ≤ (↑z_2 : Int) + (1 : Int) ∧ (↑z_2 : Int) + (1 : Int) ≤ (9223372036854775807 : Int)) ∧ ∃ (z_3 : Nat), z_3 ≤ pw w.m.1 ∧ pw w.m.1 - z_3 < pw w.m.1 - z_2 ∧ z = z ∧ (0 : Nat) = (0 : Nat) ∧ (0 : Nat) = (0 : Nat) ∧ (0 : Nat) = (0 : Nat) ∧ (0 : Nat) = (0 : Nat) ∧ false = false ∧ (0 : Nat) = (0 : Nat) ∧
 w.j.1 = w.j.1 ∧ (0 : Nat) = (0 : Nat) ∧ w.j.1 = w.j.1 ∧ (0 : Nat) = (0 : Nat) ∧ (0 : Nat) = (0 : Nat) ∧ (fndR w z.toNat z_2 ↔ fndR w z.toNat z_3) ∧ (↑z_2 : Int) + (1 : Int) = (↑z_3 : Int) ∧ w.1 = w.1 ∧ w.2 = w.2 ∧ w.j.1 = w.j.1 ∧ (∀ (i : Nat), i < w.j.1 → (SV.agg [i6 (w.j.nl i), i6 (w.j.nh i), i6 (w.j.le i), i6 (w.j.mo i), i6 (w.j.go i)]).den = (SV.agg [i6 (w.j.nl i), i6 (w.j.nh i), i6 (w.j.le i), i6 (w.j.mo i), i6 (w.j.go i)]).den ∧ True ∧ True ∧ True ∧ True ∧ True ∧ True) ∧ w.m.1 = w.m.1 ∧ (∀ (i : Nat), i < w.m.1 → (SV.agg [i6 (w.m.fr i), i6 (w.m.dr i), i6 (w.m.va i), i6 (w.m.co i)]).den = (SV.agg [i6 (w.m.fr i), i6 (w.m.dr i), i6 (w.m.va i), i6 (w.m.co i)]).den ∧ True ∧ True ∧ True ∧ True ∧ True) ∧ (0 : Int) = (0 : Int) ∧ (0 : Int) = (0 : Int) ∧ w.j.1 = w.j.1 ∧ (∀ (i : Nat), i < w.j.1 → (1 : Nat) = (1 : Nat) ∧ w.j.2 i = w.j.2 i ∧ True) ∧ w.j.1 = w.j.1 ∧ (∀ (i : Nat), i < w.j.1 → (1 : Nat) = (1 : Nat) ∧ w.j.3 i = w.j.3 i ∧ True) ∧ loR w z.toNat z_2 = loR w z.toNat z_3 ∧ upR w z.toNat z_2 = upR w z.toNat z_3 ∧ True) ∧ (¬¬onW w.m (↑z_2 : Int).toNat z.toNat → (0 : Nat) < (1 : Nat) ∧ (0 : Nat) < (1 : Nat) ∧ (∀ (i : Nat), i < w.j.1 → True ∧ True ∧ True ∧ True ∧ True ∧ True) ∧ (∀ (i : Nat), i < w.m.1 → True ∧ True ∧ True ∧ True ∧ True) ∧ (0 : Nat) + w.j.1 ≤ w.j.1 ∧ (∀ (i : Nat), i < w.j.1 → (1 : Nat) = (1 : Nat) ∧ True) ∧ w.sv = w.sv ∧ ((fun (i : Nat) => i6 (w.j.nh (i + (0 : Nat)))) = fun (i : Nat) => i6 (prI (i6 (w.j.nh (i + (0 : Nat)))))) ∧ (okNet w ∧ ((0 : Int) ≤ (↑z_2 : Int) ∧ (↑z_2 : Int) ≤ (1099511627776 : Int)) ∧ ((0 : Int) ≤ z ∧ z < (↑w.j.1 : Int)) ∧ w.j.1 = w.j.1 ∧ (dOK w.j.n fun (i : Nat) => w.j.nh (i + (0 : Nat))) ∧ ((0 : Int) ≤ w.1 ∧ w.1 ≤ (1099511627776 : Int)) ∧ z.toNat < (100 : Nat)) ∧ (0 : Nat) < (1 : Nat) ∧ (0 : Nat) < (1 : Nat) ∧ (∀ (i : Nat),
 i < w.j.1 → True ∧ True ∧ True ∧ True ∧ True ∧ True) ∧ (∀ (i : Nat), i < w.m.1 → True ∧ True ∧ True ∧ True ∧ True) ∧ (0 : Nat) + w.j.1 ≤ w.j.1 ∧ (∀ (i : Nat), i < w.j.1 → (1 : Nat) = (1 : Nat) ∧ True) ∧ w.sv = w.sv ∧ ((fun (i : Nat) => i6 (w.j.nl (i + (0 : Nat)))) = fun (i : Nat) => i6 (prI (i6 (w.j.nl (i + (0 : Nat)))))) ∧ (okNet w ∧ ((0 : Int) ≤ (↑z_2 : Int) ∧ (↑z_2 : Int) ≤ (1099511627776 : Int)) ∧ ((0 : Int) ≤ z ∧ z < (↑w.j.1 : Int)) ∧ w.j.1 = w.j.1 ∧ (dOK w.j.n fun (i : Nat) => w.j.nl (i + (0 : Nat))) ∧ ((0 : Int) ≤ w.2 ∧ w.2 ≤ (1099511627776 : Int)) ∧ z.toNat < (100 : Nat)) ∧ (¬fndR w z.toNat z_2 → (0 : Nat) < (1 : Nat) ∧ (0 : Nat) < (1 : Nat) ∧ ((-9223372036854775808 : Int) ≤ (↑z_2 : Int) + (1 : Int) ∧ (↑z_2 : Int) + (1 : Int) ≤ (9223372036854775807 : Int)) ∧ ∃ (z_3 : Nat), z_3 ≤ pw w.m.1 ∧ pw w.m.1 - z_3 < pw w.m.1 - z_2 ∧ z = z ∧ (0 : Nat) = (0 : Nat) ∧ (0 : Nat) = (0 : Nat) ∧ (0 : Nat) = (0 : Nat) ∧ (0 : Nat) = (0 : Nat) ∧ false = false ∧ (0 : Nat) = (0 : Nat) ∧ w.j.1 = w.j.1 ∧ (0 : Nat) = (0 : Nat) ∧ w.j.1 = w.j.1 ∧ (0 : Nat) = (0 : Nat) ∧ (0 : Nat) = (0 : Nat) ∧ (true = true ↔ fndR w z.toNat z_3) ∧ (↑z_2 : Int) + (1 : Int) = (↑z_3 : Int) ∧ w.1 = w.1 ∧ w.2 = w.2 ∧ w.j.1 = w.j.1 ∧ (∀ (i : Nat), i < w.j.1 → (SV.agg [i6 (w.j.nl i), i6 (w.j.nh i), i6 (w.j.le i), i6 (w.j.mo i), i6 (w.j.go i)]).den = (SV.agg [i6 (w.j.nl i), i6 (w.j.nh i), i6 (w.j.le i), i6 (w.j.mo i), i6 (w.j.go i)]).den ∧ True ∧ True ∧ True ∧ True ∧ True ∧ True) ∧ w.m.1 = w.m.1 ∧ (∀ (i : Nat), i < w.m.1 → (SV.agg [i6 (w.m.fr i), i6 (w.m.dr i), i6 (w.m.va i), i6 (w.m.co i)]).den = (SV.agg [i6 (w.m.fr i), i6 (w.m.dr i), i6 (w.m.va i), i6 (w.m.co i)]).den ∧ True ∧ True ∧ True ∧ True ∧ True) ∧ (0 : Int) = (0 : Int) ∧ (0 : Int) = (0 : Int) ∧ w.j.1 = w.j.1 ∧ (∀ (i : Nat), i < w.j.1 → (1 : Nat) = (1 :
 Nat) ∧ w.j.2 i = w.j.2 i ∧ True) ∧ w.j.1 = w.j.1 ∧ (∀ (i : Nat), i < w.j.1 → (1 : Nat) = (1 : Nat) ∧ w.j.3 i = w.j.3 i ∧ True) ∧ min (atS w (↑z_2 : Int).toNat (fun (i : Nat) => w.j.nh (i + (0 : Nat))) w.1 z.toNat) (atS w (↑z_2 : Int).toNat (fun (i : Nat) => w.j.nh (i + (0 : Nat))) w.1 z.toNat) = loR w z.toNat z_3 ∧ max (atS w (↑z_2 : Int).toNat (fun (i : Nat) => w.j.nl (i + (0 : Nat))) w.2 z.toNat) (atS w (↑z_2 : Int).toNat (fun (i : Nat) => w.j.nl (i + (0 : Nat))) w.2 z.toNat) = upR w z.toNat z_3 ∧ True) ∧ (¬¬fndR w z.toNat z_2 → (0 : Nat) < (1 : Nat) ∧ (0 : Nat) < (1 : Nat) ∧ ((-9223372036854775808 : Int) ≤ (↑z_2 : Int) + (1 : Int) ∧ (↑z_2 : Int) + (1 : Int) ≤ (9223372036854775807 : Int)) ∧ ∃ (z_3 : Nat), z_3 ≤ pw w.m.1 ∧ pw w.m.1 - z_3 < pw w.m.1 - z_2 ∧ z = z ∧ (0 : Nat) = (0 : Nat) ∧ (0 : Nat) = (0 : Nat) ∧ (0 : Nat) = (0 : Nat) ∧ (0 : Nat) = (0 : Nat) ∧ false = false ∧ (0 : Nat) = (0 : Nat) ∧ w.j.1 = w.j.1 ∧ (0 : Nat) = (0 : Nat) ∧ w.j.1 = w.j.1 ∧ (0 : Nat) = (0 : Nat) ∧ (0 : Nat) = (0 : Nat) ∧ (true = true ↔ fndR w z.toNat z_3) ∧ (↑z_2 : Int) + (1 : Int) = (↑z_3 : Int) ∧ w.1 = w.1 ∧ w.2 = w.2 ∧ w.j.1 = w.j.1 ∧ (∀ (i : Nat), i < w.j.1 → (SV.agg [i6 (w.j.nl i), i6 (w.j.nh i), i6 (w.j.le i), i6 (w.j.mo i), i6 (w.j.go i)]).den = (SV.agg [i6 (w.j.nl i), i6 (w.j.nh i), i6 (w.j.le i), i6 (w.j.mo i), i6 (w.j.go i)]).den ∧ True ∧ True ∧ True ∧ True ∧ True ∧ True) ∧ w.m.1 = w.m.1 ∧ (∀ (i : Nat), i < w.m.1 → (SV.agg [i6 (w.m.fr i), i6 (w.m.dr i), i6 (w.m.va i), i6 (w.m.co i)]).den = (SV.agg [i6 (w.m.fr i), i6 (w.m.dr i), i6 (w.m.va i), i6 (w.m.co i)]).den ∧ True ∧ True ∧ True ∧ True ∧ True) ∧ (0 : Int) = (0 : Int) ∧ (0 : Int) = (0 : Int) ∧ w.j.1 = w.j.1 ∧ (∀ (i : Nat), i < w.j.1 → (1 : Nat) = (1 : Nat) ∧ w.j.2 i = w.j.2 i ∧ True) ∧ w.j.1 = w.j.1 ∧ (∀ (i : Nat), i <
 w.j.1 → (1 : Nat) = (1 : Nat) ∧ w.j.3 i = w.j.3 i ∧ True) ∧ min (loR w z.toNat z_2) (atS w (↑z_2 : Int).toNat (fun (i : Nat) => w.j.nh (i + (0 : Nat))) w.1 z.toNat) = loR w z.toNat z_3 ∧ max (upR w z.toNat z_2) (atS w (↑z_2 : Int).toNat (fun (i : Nat) => w.j.nl (i + (0 : Nat))) w.2 z.toNat) = upR w z.toNat z_3 ∧ True)))) ∧ (¬(↑z_2 : Int) < (↑(pw (↑w.m.1 : Int).toNat) : Int) → (0 : Nat) < (1 : Nat) ∧ (0 : Nat) < (1 : Nat) ∧ loR w z.toNat z_2 = loR w z.toNat (pw w.m.1) ∧ upR w z.toNat z_2 = upR w z.toNat (pw w.m.1) ∧ (fndR w z.toNat z_2 ↔ fndR w z.toNat (pw w.m.n)) ∧ True))) := by kernel_rfl
theorem FltRG_vc (w : Nw) : FltRG w = ((0 : Nat) < (1 : Nat) ∧ (∀ (i : Nat), i < w.j.1 → True ∧ True ∧ True ∧ True ∧ True ∧ True) ∧ (∀ (i : Nat), i < w.m.1 → True ∧ True ∧ True ∧ True ∧ True) ∧ w.sv = w.sv ∧ (¬okNet w → (0 : Int) = FtJR w ∧ (false = true ↔ FtLR w) ∧ (1 : Int) = FtER w ∧ True) ∧ (¬¬okNet w → (∃ (z : Nat), (z ≤ w.j.1 ∧ ∀ (k : Nat), k < z → ¬badR w k) ∧ (0 : Nat) = (0 : Nat) ∧ (0 : Nat) = (0 : Nat) ∧ (0 : Int) = (0 : Int) ∧ false = false ∧ (0 : Int) = (0 : Int) ∧ (0 : Int) = (↑z : Int) ∧ w.1 = w.1 ∧ w.2 = w.2 ∧ w.j.1 = w.j.1 ∧ (∀ (i : Nat), i < w.j.1 → (SV.agg [i6 (w.j.nl i), i6 (w.j.nh i), i6 (w.j.le i), i6 (w.j.mo i), i6 (w.j.go i)]).den = (SV.agg [i6 (w.j.nl i), i6 (w.j.nh i), i6 (w.j.le i), i6 (w.j.mo i), i6 (w.j.go i)]).den ∧ True ∧ True ∧ True ∧ True ∧ True ∧ True) ∧ w.m.1 = w.m.1 ∧ (∀ (i : Nat), i < w.m.1 → (SV.agg [i6 (w.m.fr i), i6 (w.m.dr i), i6 (w.m.va i), i6 (w.m.co i)]).den = (SV.agg [i6 (w.m.fr i), i6 (w.m.dr i), i6 (w.m.va i), i6 (w.m.co i)]).den ∧ True ∧ True ∧ True ∧ True ∧ True) ∧ True) ∧ ∀ (z : Nat), (z ≤ w.j.1 ∧ ∀ (k : Nat), k < z → ¬badR w k) → (0 : Nat) < (1 : Nat) ∧ ((↑z : Int) < (↑w.j.1 : Int) → (0 : Nat) < (1 : Nat) ∧ (∀ (i : Nat), i < w.j.1 → True ∧ True ∧ True ∧ True ∧ True ∧ True) ∧ (∀ (i : Nat), i < w.m.1 → True ∧ True ∧ True ∧ True ∧ True) ∧ w.sv = w.sv ∧ (okNet w ∧ (0 : Int) ≤ (↑z : Int) ∧ (↑z : Int) < (↑w.j.1 : Int)) ∧ (0 : Nat) < (1 : Nat) ∧ (0 : Int) ≤ (↑z : Int) ∧ (↑z : Int) < (↑w.j.1 : Int) ∧ (fndR w (↑z : Int).toNat (pw w.m.n) → (0 : Nat) < (1 : Nat) ∧ (0 : Nat) < (1 : Nat) ∧ (loR w (↑z : Int).toNat (pw w.m.1) < w.j.4 (↑z : Int).toNat → (0 : Nat) < (1 : Nat) ∧ (0 : Nat) < (1 : Nat) ∧ (↑z : Int) = FtJR w ∧ (loR w (↑z : Int).toNat (pw w.m.1) < w.j.4 (↑z : Int).toNat ↔ FtLR w) ∧ (0 : Int) = FtER w ∧ True) ∧
 (¬loR w (↑z : Int).toNat (pw w.m.1) < w.j.4 (↑z : Int).toNat → (0 : Nat) < (1 : Nat) ∧ (0 : Nat) < (1 : Nat) ∧ (w.j.5 (↑z : Int).toNat < upR w (↑z : Int).toNat (pw w.m.1) → (0 : Nat) < (1 : Nat) ∧ (0 : Nat) < (1 : Nat) ∧ (↑z : Int) = FtJR w ∧ (loR w (↑z : Int).toNat (pw w.m.1) < w.j.4 (↑z : Int).toNat ↔ FtLR w) ∧ (0 : Int) = FtER w ∧ True) ∧ (¬w.j.5 (↑z : Int).toNat < upR w (↑z : Int).toNat (pw w.m.1) → ((-9223372036854775808 : Int) ≤ (↑z : Int) + (1 : Int) ∧ (↑z : Int) + (1 : Int) ≤ (9223372036854775807 : Int)) ∧ ∃ (z_1 : Nat), (z_1 ≤ w.j.1 ∧ ∀ (k : Nat), k < z_1 → ¬badR w k) ∧ w.j.1 - z_1 < w.j.1 - z ∧ (0 : Nat) = (0 : Nat) ∧ (0 : Nat) = (0 : Nat) ∧ (0 : Int) = (0 : Int) ∧ false = false ∧ (0 : Int) = (0 : Int) ∧ (↑z : Int) + (1 : Int) = (↑z_1 : Int) ∧ w.1 = w.1 ∧ w.2 = w.2 ∧ w.j.1 = w.j.1 ∧ (∀ (i : Nat), i < w.j.1 → (SV.agg [i6 (w.j.nl i), i6 (w.j.nh i), i6 (w.j.le i), i6 (w.j.mo i), i6 (w.j.go i)]).den = (SV.agg [i6 (w.j.nl i), i6 (w.j.nh i), i6 (w.j.le i), i6 (w.j.mo i), i6 (w.j.go i)]).den ∧ True ∧ True ∧ True ∧ True ∧ True ∧ True) ∧ w.m.1 = w.m.1 ∧ (∀ (i : Nat), i < w.m.1 → (SV.agg [i6 (w.m.fr i), i6 (w.m.dr i), i6 (w.m.va i), i6 (w.m.co i)]).den = (SV.agg [i6 (w.m.fr i), i6 (w.m.dr i), i6 (w.m.va i), i6 (w.m.co i)]).den ∧ True ∧ True ∧ True ∧ True ∧ True) ∧ True))) ∧ (¬fndR w (↑z : Int).toNat (pw w.m.n) → ((-9223372036854775808 : Int) ≤ (↑z : Int) + (1 : Int) ∧ (↑z : Int) + (1 : Int) ≤ (9223372036854775807 : Int)) ∧ ∃ (z_1 : Nat), (z_1 ≤ w.j.1 ∧ ∀ (k : Nat), k < z_1 → ¬badR w k) ∧ w.j.1 - z_1 < w.j.1 - z ∧ (0 : Nat) = (0 : Nat) ∧ (0 : Nat) = (0 : Nat) ∧ (0 : Int) = (0 : Int) ∧ false = false ∧ (0 : Int) = (0 : Int) ∧ (↑z : Int) + (1 : Int) = (↑z_1 : Int) ∧ w.1 = w.1 ∧ w.2 = w.2 ∧ w.j.1 = w.j.1 ∧ (∀ (i : Nat), i < w.j.1 → (SV.agg [i6 (w.j.nl i), i6 (w.j.nh i),
 i6 (w.j.le i), i6 (w.j.mo i), i6 (w.j.go i)]).den = (SV.agg [i6 (w.j.nl i), i6 (w.j.nh i), i6 (w.j.le i), i6 (w.j.mo i), i6 (w.j.go i)]).den ∧ True ∧ True ∧ True ∧ True ∧ True ∧ True) ∧ w.m.1 = w.m.1 ∧ (∀ (i : Nat), i < w.m.1 → (SV.agg [i6 (w.m.fr i), i6 (w.m.dr i), i6 (w.m.va i), i6 (w.m.co i)]).den = (SV.agg [i6 (w.m.fr i), i6 (w.m.dr i), i6 (w.m.va i), i6 (w.m.co i)]).den ∧ True ∧ True ∧ True ∧ True ∧ True) ∧ True)) ∧ (¬(↑z : Int) < (↑w.j.1 : Int) → (0 : Int) = FtJR w ∧ (false = true ↔ FtLR w) ∧ (4 : Int) = FtER w ∧ True))) := by kernel_rfl
end Go.Proofs.Ytpannbkmpbioiaa
