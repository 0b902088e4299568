import Derived.Test.YtpannbkmpbioiaaQgQhQiQiVQj
set_option linter.unusedVariables false
set_option linter.unusedSimpArgs false
namespace Go.Proofs.Ytpannbkmpbioiaa
open Go Go.Lg
attribute [local irreducible] bodyH
theorem chk_zero {w : Nw} {z : Int} (h : chkN w z = 0) : okNet w ∧ 0 ≤ z ∧ z < w.j.n := by
  unfold chkN at h
  split at h
  · rename_i h1
    split at h
    · rename_i h2; exact ⟨h1, h2⟩
    · cases h
  · cases h
theorem Fed_true (w : Nw) (z : Int) : FedG w z := by
  rw [FedG_vc]
  simp only [and_true, true_and, Nat.zero_lt_one, implies_true, Classical.not_not]
  exact ⟨fun h => by simp [FedV, h], fun h => ⟨(chk_zero h).1.okJ (chk_zero h).2, by simp [FedV, h], h.symm⟩⟩
theorem Pre_true (w : Nw) (z : Int) : PreG w z := by
  rw [PreG_vc]
  simp only [and_true, true_and, Nat.zero_lt_one, implies_true, Classical.not_not]
  refine ⟨fun h => ?_, fun h => ⟨(chk_zero h).1.okJ (chk_zero h).2, fun h1 => ?_, fun h1 => ⟨chk_zero h, ?_⟩⟩⟩
  · have e : PrE w z = chkN w z := by simp [PrE, h]
    simp [PrL, PrH, e, h]
  · have e : PrE w z = 4 := by simp [PrE, h, h1]
    simp [PrL, PrH, e]
  · have e : PrE w z = 0 := by simp [PrE, h, h1]
    simp [PrL, PrH, e]
theorem fst_all {w : Nw} : ∀ {i : Nat}, (∀ j, j < i → ¬ badJ w j) → fstB w i = i
  | 0, _ => rfl
  | i + 1, h => by
    have := fst_all (i := i) fun j hj => h j (by omega)
    simp only [fstB, this, Nat.lt_irrefl, if_false, h i (by omega)]
theorem fst_at {w : Nw} {h : Nat} (ha : ∀ j, j < h → ¬ badJ w j) (hb : badJ w h) : ∀ {i : Nat}, h < i → fstB w i = h
  | 0, hi => by omega
  | i + 1, hi => by
    rcases Nat.lt_or_ge h i with h' | h'
    · have := fst_at ha hb h'
      simp only [fstB, this, h', if_true]
    · have e : h = i := by omega
      subst e
      simp only [fstB, fst_all ha, Nat.lt_irrefl, if_false, hb, if_true]
theorem flt_at {w : Nw} {z : Nat} (ha : ∀ j, j < z → ¬ badJ w j) (hb : badJ w z) (hz : z < w.j.n) : (z : Int) = ftJ w ∧ (prLo w z < w.j.le z ↔ ftL w) ∧ ftI w := by
  have e := fst_at ha hb hz
  have hi : ftI w := ⟨by rw [e]; exact hz⟩
  refine ⟨by simp [ftJ, hi, e], ⟨fun h => ⟨hi, by rw [e]; exact h⟩, fun h => by have := h.h; rwa [e] at this⟩, hi⟩
theorem flt_true (w : Nw) (h : okNet w) : fltG w := by
  rw [fltG_vc]
  simp only [and_true, true_and, Nat.zero_lt_one, implies_true, Int.toNat_natCast, Bool.false_eq_true, false_iff, true_iff]
  have hn := h.n
  refine ⟨⟨0, ⟨by omega, fun k hk => by omega⟩, rfl⟩, fun z hz => ⟨fun hlt => ?_, fun hge => ?_⟩⟩
  · have hz' : z < w.j.n := by omega
    refine ⟨by omega, hlt, h.okJ ⟨by omega, hlt⟩, fun h1 => ⟨by omega, z + 1, ⟨by omega, to_succ hz.2 fun hb => hb.fed h1⟩, by omega, by omega⟩, fun h1 => ⟨⟨h, by omega, hlt⟩, fun h2 => flt_at hz.2 ⟨h1, .inl h2⟩ hz', fun h2 => ⟨fun h3 => flt_at hz.2 ⟨h1, .inr h3⟩ hz', fun h3 => ⟨by omega, z + 1, ⟨by omega, to_succ hz.2 fun hb => ?_⟩, by omega, by omega⟩⟩⟩⟩
    rcases hb.out with h4 | h4
    · exact h2 h4
    · exact h3 h4
  · have e : z = w.j.n := by omega
    subst e
    have e := fst_all hz.2
    have hi : ¬ ftI w := fun h => by have := h.h; omega
    exact ⟨by simp [ftJ, hi], fun h => hi h.i, hi⟩
theorem Flt_true (w : Nw) : FltG w := by
  rw [FltG_vc]
  simp only [and_true, true_and, Nat.zero_lt_one, implies_true, Classical.not_not, Bool.false_eq_true, false_iff]
  refine ⟨fun h => ?_, fun h => ⟨h, fun h1 => ?_, fun h1 => ?_⟩⟩
  · have e : FtE w = 1 := by simp [FtE, h]
    exact ⟨by simp [FtJ, e], fun h => by have := h.e; omega, e.symm⟩
  · have e : FtE w = 4 := by simp [FtE, h, h1]
    exact ⟨by simp [FtJ, e], fun h => by have := h.e; omega, e.symm⟩
  · have e : FtE w = 0 := by simp [FtE, h, h1]
    exact ⟨by simp [FtJ, e], ⟨fun h => ⟨e, h⟩, fun h => h.l⟩, e.symm⟩
theorem csL_sound (b : Bool) : SoundS Try.prog (csL b) := ctrsF_sound (ctrs_sound (by
  intro x hx
  simp only [List.mem_cons, List.not_mem_nil, or_false] at hx
  rcases hx with rfl | rfl
  · exact lo_ok
  · exact hi_ok)) (by
  intro x hx
  simp only [List.mem_cons, List.not_mem_nil, or_false] at hx
  subst hx
  exact led_ok b)
theorem ledI_sound (b : Bool) (M : Nat) : SoundIH Try.prog (ictrs [ledI b M]) := ictrs_sound (by
  intro x hx
  simp only [List.mem_cons, List.not_mem_nil, or_false] at hx
  subst hx
  exact ledI_ok b M)
theorem flow_ok (b : Bool) : (flowC b).Ok Try.prog := by
  refine ⟨by kernel_rfl, fun args k hk => ?_⟩
  simp only [flowC] at hk
  split at hk
  · rename_i e x z
    obtain ⟨rfl, hx, ⟨hw, hz⟩, hk⟩ := hk
    refine ⟨_, ?_, hk⟩
    rw [hx]
    have key : flw b (wOf x) z := by
      cases b with
      | true => exact flwT_true hw hz
      | false => exact flwF_true hw hz
    unfold flw at key
    exact okV (csL_sound b) nil_x (ledI_sound b 2000) key trivial
  · exact hk.elim
theorem csP0_sound (b : Bool) : SoundS Try.prog (ctrs [loC, hiC, flowC b, govC]) := ctrs_sound (by
  intro x hx
  simp only [List.mem_cons, List.not_mem_nil, or_false] at hx
  rcases hx with rfl | rfl | rfl | rfl
  · exact lo_ok
  · exact hi_ok
  · exact flow_ok b
  · exact gov_ok)
theorem at_ok (b : Bool) : ∀ M, (atC b M).Ok Try.prog
  | 0 => ⟨by kernel_rfl, fun p hp => by have := hp.2.2; omega⟩
  | M + 1 => ⟨by kernel_rfl, fun p hp => by
    have hcs : SoundS Try.prog (csP b M) := ctrsQ_sound (csP0_sound b) (by
      intro x hx
      simp only [List.mem_cons, List.not_mem_nil, or_false] at hx
      subst hx
      exact at_ok b M)
    obtain ⟨hw, hz, hM⟩ := hp
    have key : atG b M p.1 p.2 := by
      cases b with
      | true => exact atT_true hw hz hM
      | false => exact atF_true hw hz hM
    unfold atG at key
    exact stH_ok hcs nil_x nil_ic mixed key⟩
theorem csP_sound (b : Bool) (M : Nat) : SoundS Try.prog (csP b M) := ctrsQ_sound (csP0_sound b) (by
  intro x hx
  simp only [List.mem_cons, List.not_mem_nil, or_false] at hx
  subst hx
  exact at_ok b M)
theorem pr_ok : prC.Ok Try.prog := by
  refine ⟨by kernel_rfl, fun args k hk => ?_⟩
  simp only [prC] at hk
  split at hk
  · rename_i e x z
    split at hk
    · obtain ⟨rfl, hx, ⟨hw, hz⟩, hk⟩ := hk
      have hh := prT_true hw hz
      unfold prTG prG at hh
      refine ⟨_, ?_, hk⟩
      rw [hx]
      exact okV (csP_sound true 100) nil_x nil_ic hh trivial
    · obtain ⟨rfl, hx, ⟨hw, hz⟩, hk⟩ := hk
      have hh := prF_true hw hz
      unfold prFG prG at hh
      refine ⟨_, ?_, hk⟩
      rw [hx]
      exact okV (csP_sound false 100) nil_x nil_ic hh trivial
  · exact hk.elim
theorem csR_sound : SoundS Try.prog (ctrsF [openC] (ctrs [endC true 58, endC false 60, prC])) := ctrsF_sound (ctrs_sound (by
  intro x hx
  simp only [List.mem_cons, List.not_mem_nil, or_false] at hx
  rcases hx with rfl | rfl | rfl
  · exact endT_ok
  · exact endF_ok
  · exact pr_ok)) (by
  intro x hx
  simp only [List.mem_cons, List.not_mem_nil, or_false] at hx
  subst hx
  exact open_ok)
theorem prs_ok : prsC.Ok Try.prog := netC_ok (by kernel_rfl) fun w r k hk => by
  split at hk
  · rename_i z
    have hh := prs_true hk.1.1 hk.1.2
    unfold prsG at hh
    exact ⟨_, okV csR_sound nil_x nil_ic hh (by simp [plainS, plainS.plainL]), hk.2⟩
  · exact hk.elim
theorem csT_sound : SoundS Try.prog csT := ctrs_sound (by
  intro x hx
  simp only [List.mem_cons, List.not_mem_nil, or_false] at hx
  rcases hx with rfl | rfl | rfl | rfl
  · exact chk_ok
  · exact fed_ok
  · exact prs_ok
  · exact vnet40)
def FltC : Ctr := netC 16 fun w r k => match r with
  | [] => k (.tup [i6 (FtJ w), .dec (FtL w) (Classical.propDecidable _), i6 (FtE w)])
  | _ => False
theorem flt_ok : fltC.Ok Try.prog := netC_ok (by kernel_rfl) fun w r k hk => by
  split at hk
  · have hh := flt_true w hk.1
    unfold fltG at hh
    exact ⟨_, okV csT_sound nil_x nil_ic hh (by simp [plainS, plainS.plainL]), hk.2⟩
  · exact hk.elim
theorem Flt_ok : FltC.Ok Try.prog := netC_ok (by kernel_rfl) fun w r k hk => by
  split at hk
  · have hh := Flt_true w
    unfold FltG at hh
    refine ⟨_, okV (ctrs_sound (by
      intro x hx
      simp only [List.mem_cons, List.not_mem_nil, or_false] at hx
      rcases hx with rfl | rfl
      · exact vnet40
      · exact flt_ok)) nil_x nil_ic hh (by simp [plainS, plainS.plainL]), hk⟩
  · exact hk.elim
end Go.Proofs.Ytpannbkmpbioiaa

namespace Go.Proofs.Ytpannbkmpbioiaa
open Go Go.Lg
def pw (n : Nat) : Nat := 2 ^ n
def hs (o k : Nat) : Prop := o / 2 ^ k % 2 = 1
def onW (m : Mn) (o j : Nat) : Prop := ∀ i, i < dpt m j j → hs o (up m j i - 1)
def behW (m : Mn) (k j : Nat) : Prop := ∃ i, i < dpt m j j ∧ up m j i = k + 1
def mayK (m : Mn) (o k : Nat) : Prop := ¬ (m.va k = 0 ∧ ¬ hs o k) ∧ ¬ (m.va k = 1 ∧ hs o k)
structure mayM (m : Mn) (o : Nat) : Prop where
  h : ∀ k, k < m.n → mayK m o k
open Classical in
noncomputable def thr (m : Mn) (o k : Nat) (d : Nat → Int) : Nat → Int
  | 0 => 0
  | J + 1 => thr m o k d J + (if behW m k J ∧ onW m o J then d J else 0)
noncomputable def atL (w : Nw) (o : Nat) (d : Nat → Int) (s : Int) : Nat → Nat → Int
  | 0, j => govd (w.j.go j) s
  | F + 1, j => govd (w.j.go j) (if j = 0 then s else atL w o d s F (w.m.fr (j - 1)).toNat - w.m.dr (j - 1) * thr w.m o (j - 1) d w.j.n)
noncomputable def atS (w : Nw) (o : Nat) (d : Nat → Int) (s : Int) (j : Nat) : Int := atL w o d s j j
structure dOK (n : Nat) (d : Nat → Int) : Prop where
  h : ∀ i, i < n → 0 ≤ d i ∧ d i ≤ 1000000
structure onA (w : Nw) (j o : Nat) : Prop where
  may : mayM w.m o
  on : onW w.m o j
structure allR (w : Nw) (j N : Nat) : Prop where
  h : ∀ o, o < N → mayM w.m o → onW w.m o j
structure fndR (w : Nw) (j N : Nat) : Prop where
  h : ∃ o, o < N ∧ onA w j o
noncomputable def lwR (w : Nw) (j o : Nat) : Int := atS w o w.j.nh w.s0 j
noncomputable def hgR (w : Nw) (j o : Nat) : Int := atS w o w.j.nl w.s1 j
open Classical in
noncomputable def loR (w : Nw) (j : Nat) : Nat → Int
  | 0 => 0
  | o + 1 => if onA w j o then (if fndR w j o then min (loR w j o) (lwR w j o) else lwR w j o) else loR w j o
open Classical in
noncomputable def upR (w : Nw) (j : Nat) : Nat → Int
  | 0 => 0
  | o + 1 => if onA w j o then (if fndR w j o then max (upR w j o) (hgR w j o) else hgR w j o) else upR w j o
structure badR (w : Nw) (j : Nat) : Prop where
  f : fndR w j (pw w.m.n)
  out : loR w j (pw w.m.n) < w.j.le j ∨ w.j.mo j < upR w j (pw w.m.n)
open Classical in
noncomputable def fstR (w : Nw) : Nat → Nat
  | 0 => 0
  | i + 1 => if fstR w i < i then fstR w i else if badR w i then i else i + 1
structure ftIR (w : Nw) : Prop where
  h : fstR w w.j.n < w.j.n
open Classical in
noncomputable def FtER (w : Nw) : Int := if okNet w then (if ftIR w then 0 else 4) else 1
open Classical in
noncomputable def FtJR (w : Nw) : Int := if FtER w = 0 then fstR w w.j.n else 0
structure FtLR (w : Nw) : Prop where
  e : FtER w = 0
  h : loR w (fstR w w.j.n) (pw w.m.n) < w.j.le (fstR w w.j.n)
def powC : Ctr := ⟨36, fun args k => match args with
  | [.int .i64 n] => (0 ≤ n ∧ n ≤ 40) ∧ k (i6 (pw n.toNat : Int))
  | _ => False⟩
def hasC : Ctr := ⟨29, fun args k => match args with
  | [.int .i64 o, .int .i64 n] => ((0 ≤ o ∧ o ≤ 1099511627776) ∧ 0 ≤ n ∧ n ≤ 40) ∧ k (.dec (hs o.toNat n.toNat) (Classical.propDecidable _))
  | _ => False⟩
noncomputable def powG (n : Nat) : Prop := funH Try.prog (ctrs []) noX (ictrs []) (oneL 0 (natH (fun i => i ≤ n) (fun i => n - i) 0 (fun i => mkF 13 [(0, i6 n), (2, i6 0), (3, i6 (pw i : Int)), (4, i6 i)]) (fun _ => ⟨0, .nil⟩) fun _ => none)) noL 36 [i6 n] (i6 (pw n : Int))
noncomputable def hasG (o n : Int) : Prop := funH Try.prog (ctrs [powC]) noX (ictrs []) noL noL 29 [i6 o, i6 n] (.dec (hs o.toNat n.toNat) (Classical.propDecidable _))
end Go.Proofs.Ytpannbkmpbioiaa

set_option maxRecDepth 100000
namespace Go.Proofs.Ytpannbkmpbioiaa
open Go Go.Lg
theorem powG_vc (n : Nat) : powG n = ((∃ (z : Nat), z ≤ n ∧ (↑n : Int) = (↑n : Int) ∧ (0 : Int) = (0 : Int) ∧ (1 : Int) = (↑(pw z) : Int) ∧ (0 : Int) = (↑z : Int) ∧ True) ∧ ∀ (z : Nat), z ≤ n → ((↑z : Int) < (↑n : Int) → ((-9223372036854775808 : Int) ≤ (2 : Int) * (↑(pw z) : Int) ∧ (2 : Int) * (↑(pw z) : Int) ≤ (9223372036854775807 : Int)) ∧ ((-9223372036854775808 : Int) ≤ (↑z : Int) + (1 : Int) ∧ (↑z : Int) + (1 : Int) ≤ (9223372036854775807 : Int)) ∧ ∃ (z_1 : Nat), z_1 ≤ n ∧ n - z_1 < n - z ∧ (↑n : Int) = (↑n : Int) ∧ (0 : Int) = (0 : Int) ∧ (2 : Int) * (↑(pw z) : Int) = (↑(pw z_1) : Int) ∧ (↑z : Int) + (1 : Int) = (↑z_1 : Int) ∧ True) ∧ (¬(↑z : Int) < (↑n : Int) → (↑(pw z) : Int) = (↑(pw n) : Int) ∧ True)) := by kernel_rfl
theorem hasG_vc (o : Int) (n : Int) : hasG o n = (((0 : Int) ≤ n ∧ n ≤ (40 : Int)) ∧ ((↑(pw n.toNat) : Int) = (0 : Int) → False) ∧ ((-9223372036854775808 : Int) ≤ o.tdiv (↑(pw n.toNat) : Int) ∧ o.tdiv (↑(pw n.toNat) : Int) ≤ (9223372036854775807 : Int)) ∧ ((2 : Int) = (0 : Int) → False) ∧ ((o.tdiv (↑(pw n.toNat) : Int)).tmod (2 : Int) = (1 : Int) ↔ hs o.toNat n.toNat) ∧ True) := by kernel_rfl
end Go.Proofs.Ytpannbkmpbioiaa
