import Derived.Test.YtoeolgeidpjgbaaXeXfXgXhXiXj
set_option linter.unusedVariables false
namespace Go.Proofs.Ytoeolgeidpjgbaa
open Go Go.Lg
attribute [local irreducible] funS
theorem lowestG_vc (w : Wt) : lowestG w =
  ((0 : Nat) < nat_lit 1 ∧ (0 : Nat) < nat_lit 1 ∧ (∀ (i : Nat), i < w.5 → True ∧ True ∧ True) ∧ w.sv = w.sv ∧ ((watchP w) ∧ (0 : Int) ≤ w.3 ∧ w.3 ≤ (1073741824 : Int)) ∧ SV.val (Value.func (Fn.func (87 : Nat)) #[] #[]) = fv (gOf (SV.val (Value.func (Fn.func (87 : Nat)) #[] #[]))) ∧ (gOf (SV.val (Value.func (Fn.func (87 : Nat)) #[] #[])) = (87 : Nat) ∨ gOf (SV.val (Value.func (Fn.func (87 : Nat)) #[] #[])) = (88 : Nat)) ∧ (0 : Nat) < nat_lit 1 ∧ w.5 = w.5 ∧ (∀ (i : Nat), i < w.5 → ((fun j => i6 ((fun j => w.s0 - tk (selF w (gOf (SV.val (Value.func (Fn.func (87 : Nat)) #[] #[])))) (j + (1 : Nat))) j)) i).den = ((fun j => i6 ((fun j => w.s0 - tk w.dh (j + (1 : Nat))) j)) i).den ∧ True) ∧ w.10 = w.10 ∧ True) := by kernel_rfl
theorem highestG_vc (w : Wt) : highestG w =
  ((0 : Nat) < nat_lit 1 ∧ (0 : Nat) < nat_lit 1 ∧ (∀ (i : Nat), i < w.5 → True ∧ True ∧ True) ∧ w.sv = w.sv ∧ ((watchP w) ∧ (0 : Int) ≤ w.4 ∧ w.4 ≤ (1073741824 : Int)) ∧ SV.val (Value.func (Fn.func (88 : Nat)) #[] #[]) = fv (gOf (SV.val (Value.func (Fn.func (88 : Nat)) #[] #[]))) ∧ (gOf (SV.val (Value.func (Fn.func (88 : Nat)) #[] #[])) = (87 : Nat) ∨ gOf (SV.val (Value.func (Fn.func (88 : Nat)) #[] #[])) = (88 : Nat)) ∧ (0 : Nat) < nat_lit 1 ∧ w.5 = w.5 ∧ (∀ (i : Nat), i < w.5 → ((fun j => i6 ((fun j => w.s1 - tk (selF w (gOf (SV.val (Value.func (Fn.func (88 : Nat)) #[] #[])))) (j + (1 : Nat))) j)) i).den = ((fun j => i6 ((fun j => w.s1 - tk w.dl (j + (1 : Nat))) j)) i).den ∧ True) ∧ w.10 = w.10 ∧ True) := by kernel_rfl
theorem keepG_vc (w : Wt) : keepG w =
  ((0 : Nat) < nat_lit 1 ∧ (0 : Nat) < nat_lit 1 ∧ (∀ (i : Nat), i < w.5 → True ∧ True ∧ True) ∧ w.sv = w.sv ∧ (watchP w) ∧ (0 : Nat) < nat_lit 1 ∧ (∀ (i : Nat), i < w.5 → True ∧ True ∧ True) ∧ w.sv = w.sv ∧ (watchP w) ∧ (0 : Nat) < nat_lit 1 ∧ w.1 = w.1 ∧ w.2 = w.2 ∧ w.3 = w.3 ∧ w.4 = w.4 ∧ w.5 = w.5 ∧ (∀ (i : Nat), i < w.5 → ((fun i => SV.agg [i6 (w.dl i), i6 (w.dh i)]) i).den = ((fun i => SV.agg [i6 (w.dl i), i6 (w.dh i)]) i).den ∧ True ∧ True ∧ True) ∧ w.8 = w.8 ∧ w.9 = w.9 ∧ w.10 = w.10 ∧ w.11 = w.11 ∧ w.12 = w.12 ∧ w.5 = w.5 ∧ (∀ (i : Nat), i < w.5 → ((fun j => i6 ((fun j => w.s0 - tk w.dh (j + (1 : Nat))) j)) i).den = ((fun j => i6 ((fun j => w.s0 - tk w.dh (j + (1 : Nat))) j)) i).den ∧ True) ∧ w.10 = w.10 ∧ w.5 = w.5 ∧ (∀ (i : Nat), i < w.5 → ((fun j => i6 ((fun j => w.s1 - tk w.dl (j + (1 : Nat))) j)) i).den = ((fun j => i6 ((fun j => w.s1 - tk w.dl (j + (1 : Nat))) j)) i).den ∧ True) ∧ w.10 = w.10 ∧ True) := by kernel_rfl
theorem afterK_vc (w : Wt) (h t x y e : Int) : afterK w h t x y e =
  ((0 : Nat) < nat_lit 1 ∧ (∀ (i : Nat), i < w.5 → True) ∧ SV.agg [SV.lst (1 : Nat) w.n fun j => i6 ((fun j => w.s0 - tk w.dh (j + (1 : Nat))) j), SV.int IntKind.i64 w.yield] = courseV (cN (SV.agg [SV.lst (1 : Nat) w.n fun j => i6 ((fun j => w.s0 - tk w.dh (j + (1 : Nat))) j), SV.int IntKind.i64 w.yield])) (cL (SV.agg [SV.lst (1 : Nat) w.n fun j => i6 ((fun j => w.s0 - tk w.dh (j + (1 : Nat))) j), SV.int IntKind.i64 w.yield])) (cY (SV.agg [SV.lst (1 : Nat) w.n fun j => i6 ((fun j => w.s0 - tk w.dh (j + (1 : Nat))) j), SV.int IntKind.i64 w.yield])) ∧ ((0 : Int) ≤ h ∧ h < (↑w.5 : Int) ∧ ((-9223372036854775808 : Int) ≤ w.10 * t ∧ w.10 * t ≤ (9223372036854775807 : Int)) ∧ (-9223372036854775808 : Int) ≤ w.3 - (tk w.dh h.toNat + w.7 h.toNat) + w.10 * t ∧ w.3 - (tk w.dh h.toNat + w.7 h.toNat) + w.10 * t ≤ (9223372036854775807 : Int)) ∧ (0 : Nat) < nat_lit 1 ∧ (∀ (i : Nat), i < w.5 → True) ∧ SV.agg [SV.lst (1 : Nat) w.n fun j => i6 ((fun j => w.s1 - tk w.dl (j + (1 : Nat))) j), SV.int IntKind.i64 w.yield] = courseV (cN (SV.agg [SV.lst (1 : Nat) w.n fun j => i6 ((fun j => w.s1 - tk w.dl (j + (1 : Nat))) j), SV.int IntKind.i64 w.yield])) (cL (SV.agg [SV.lst (1 : Nat) w.n fun j => i6 ((fun j => w.s1 - tk w.dl (j + (1 : Nat))) j), SV.int IntKind.i64 w.yield])) (cY (SV.agg [SV.lst (1 : Nat) w.n fun j => i6 ((fun j => w.s1 - tk w.dl (j + (1 : Nat))) j), SV.int IntKind.i64 w.yield])) ∧ ((0 : Int) ≤ h ∧ h < (↑w.5 : Int) ∧ ((-9223372036854775808 : Int) ≤ w.10 * t ∧ w.10 * t ≤ (9223372036854775807 : Int)) ∧ (-9223372036854775808 : Int) ≤ w.4 - (tk w.dl h.toNat + w.6 h.toNat) + w.10 * t ∧ w.4 - (tk w.dl h.toNat + w.6 h.toNat) + w.10 * t ≤ (9223372036854775807 : Int)) ∧ (0 : Nat) < nat_lit 1 ∧ (0 : Nat) < nat_lit 1 ∧ (w.3 - (tk w.dh h.toNat + w.7 h.toNat) + w.10 * t < w.2 → (0 : Nat) < nat_lit 1 ∧ (0 : Int) = x ∧ (0 : Int) = y ∧ (10 : Int) = e ∧ True) ∧ (¬w.3 - (tk w.dh h.toNat + w.7 h.toNat) + w.10 * t < w.2 → (0 : Nat) < nat_lit 1 ∧ (0 : Nat) < nat_lit 1 ∧ (w.1 < w.4 - (tk w.dl h.toNat + w.6 h.toNat) + w.10 * t → (0 : Nat) < nat_lit 1 ∧ (0 : Int) = x ∧ (0 : Int) = y ∧ (9 : Int) = e ∧ True) ∧ (¬w.1 < w.4 - (tk w.dl h.toNat + w.6 h.toNat) + w.10 * t → (0 : Nat) < nat_lit 1 ∧ (0 : Nat) < nat_lit 1 ∧ w.3 - (tk w.dh h.toNat + w.7 h.toNat) + w.10 * t = x ∧ w.4 - (tk w.dl h.toNat + w.6 h.toNat) + w.10 * t = y ∧ (0 : Int) = e ∧ True))) := by kernel_rfl

theorem lowest_true (w : Wt) (hw : watchP w) : lowestG w := by
  rw [lowestG_vc]
  simp only [and_true, true_and, implies_true, lit1, hw]
  exact ⟨⟨hw.1.1.2.2.1.1, by have := hw.1.1.2.2.1; omega⟩, rfl, .inl rfl, fun i hi => rfl⟩
theorem highest_true (w : Wt) (hw : watchP w) : highestG w := by
  rw [highestG_vc]
  simp only [and_true, true_and, implies_true, lit1, hw]
  refine ⟨⟨by have := hw.1.1.2.2.1; omega, by have := hw.1.1.2.2.1; omega⟩, rfl, .inr rfl, fun i hi => rfl⟩
theorem keep_true (w : Wt) (hw : watchP w) : keepG w := by
  rw [keepG_vc]
  simp only [and_true, implies_true, lit1, hw]
theorem lowest_okF : lowC.OkF Try.prog := wC_okF (by kernel_rfl) fun w r k hk => by
  split at hk
  · have hh := lowest_true w hk.1
    unfold lowestG at hh
    exact ⟨_, funS_does csZ_sound mixed hh, hk.2⟩
  · exact hk.elim
theorem highest_okF : highC.OkF Try.prog := wC_okF (by kernel_rfl) fun w r k hk => by
  split at hk
  · have hh := highest_true w hk.1
    unfold highestG at hh
    exact ⟨_, funS_does csZ_sound mixed hh, hk.2⟩
  · exact hk.elim
theorem csK_sound : SoundS Try.prog csK := ctrsF_sound csX_sound (by
  intro x hx
  simp only [List.mem_cons, List.not_mem_nil, or_false] at hx
  rcases hx with rfl | rfl
  · exact lowest_okF
  · exact highest_okF)
def keepC : Ctr := wC 51 fun w r k => match r with
  | [] => watchP w ∧ k (keepV w)
  | _ => False
theorem keep_okF : keepC.OkF Try.prog := wC_okF (by kernel_rfl) fun w r k hk => by
  split at hk
  · have hh := keep_true w hk.1
    unfold keepG at hh
    exact ⟨_, funS_does csK_sound mixed hh, hk.2⟩
  · exact hk.elim
def aX (w : Wt) (h t : Int) : Int := if aLo w h t < w.least then 0 else if w.full < aHi w h t then 0 else aLo w h t
def aY (w : Wt) (h t : Int) : Int := if aLo w h t < w.least then 0 else if w.full < aHi w h t then 0 else aHi w h t
def aE (w : Wt) (h t : Int) : Int := if aLo w h t < w.least then 10 else if w.full < aHi w h t then 9 else 0
theorem after_k (w : Wt) (h t : Int) (hw : watchP w) (h0 : 0 ≤ h) (h1 : h < w.n) (t0 : 0 ≤ t) (t1 : t ≤ 1000) : afterK w h t (aX w h t) (aY w h t) (aE w h t) := by
  rw [afterK_vc]
  obtain ⟨⟨⟨f1, f2, f3, f4⟩, r1, r2, r3, r4, r5⟩, hd⟩ := hw
  have hl := tk_le (f := w.dl) (n := w.n) (fun i hi => by have := hd i hi; unfold okD at this; omega) (h.toNat + 1) (by omega)
  have hh := tk_le (f := w.dh) (n := w.n) (fun i hi => by have := hd i hi; unfold okD at this; omega) (h.toNat + 1) (by omega)
  have hy := yB r3.1 r3.2 t0 t1
  simp only [tk] at hl hh
  simp only [and_true, true_and, implies_true, lit1]
  refine ⟨rfl, ⟨h0, h1, by omega, by omega, by omega⟩, rfl, ⟨h0, h1, by omega, by omega, by omega⟩, fun a => ?_, fun a => ⟨fun b => ?_, fun b => ?_⟩⟩
  · have a : aLo w h t < w.least := a
    simp [aX, aY, aE, a]
  · have a : ¬ aLo w h t < w.least := a
    have b : w.full < aHi w h t := b
    simp [aX, aY, aE, a, b]
  · have a : ¬ aLo w h t < w.least := a
    have b : ¬ w.full < aHi w h t := b
    simp only [aX, aY, aE, a, b, if_false]
    exact ⟨rfl, rfl, trivial⟩
def afterKC : Ctr := ⟨76, fun args k => match args with
  | [x, .int .i64 h, .int .i64 t] => x = keepV (wOf x) ∧ (watchP (wOf x) ∧ 0 ≤ h ∧ h < (wOf x).n ∧ 0 ≤ t ∧ t ≤ 1000) ∧ k (.tup [.agg [i6 (aX (wOf x) h t), i6 (aY (wOf x) h t)], i6 (aE (wOf x) h t)])
  | _ => False⟩
theorem afterK_okF : afterKC.OkF Try.prog := by
  refine ⟨by kernel_rfl, fun args k hk => ?_⟩
  simp only [afterKC] at hk
  split at hk
  · rename_i x h t
    obtain ⟨hx, ⟨h1, h2, h3, h4, h5⟩, hk⟩ := hk
    have hh := after_k (wOf x) h t h1 h2 h3 h4 h5
    unfold afterK at hh
    rw [← hx] at hh
    exact ⟨_, funS_does csZ_sound mixed hh, hk⟩
  · exact hk.elim
noncomputable def csL : CSpec := ctrsF [afterKC] csX
theorem csL_sound : SoundS Try.prog csL := ctrsF_sound csX_sound (by
  intro x hx
  simp only [List.mem_cons, List.not_mem_nil, or_false] at hx
  rcases hx with rfl
  exact afterK_okF)
def loK (w : Wt) (p : Nat → Int) (j : Nat) : Int := aLo w j (tk p (j + 1))
def hiK (w : Wt) (p : Nat → Int) (j : Nat) : Int := aHi w j (tk p (j + 1))
def heldK (w : Wt) (p : Nat → Int) : Nat → SV := fun j => .agg [i6 (loK w p j), i6 (hiK w p j)]
noncomputable def followG (w : Wt) (m : Nat) (p : Nat → Int) (N : Nat) (H E : Int) : Prop :=
  funS Try.prog csL (one (cntX m 45 18 2 (fun i => i ≤ m ∧ ∀ j, j < i → okHr w p j) (fun i => mkF 45 [(1, planV m p), (2, .ptr 0 0 0), (4, .val (.slice none 0 0)), (5, i6 0), (6, i6 0), (7, .sl 1 0 m), (8, i6 (tk p i)), (16, planV m p), (17, i6 m), (18, i6 i)])
    fun i => mkX [vr 12 (keepV w), ⟨2, m, fun j => .agg [i6 (if j < i then loK w p j else 0), i6 (if j < i then hiK w p j else 0)], false⟩])) 52 [keepV w, planV m p] (.tup [.lst 2 N (heldK w p), i6 H, i6 E])
end Go.Proofs.Ytoeolgeidpjgbaa

set_option linter.unusedVariables false
namespace Go.Proofs.Ytoeolgeidpjgbaa
open Go Go.Lg
theorem follow_vc (w : Wt) (m : Nat) (p : Nat → Int) (N : Nat) (H E : Int) : followG w m p N H E =
  ((0 : Int) ≤ (↑m : Int) ∧ (↑m : Int) ≤ (↑m : Int) ∧ (↑m : Int) ≤ (1048576 : Int) ∧ (↑m : Int) * (↑(nat_lit 16) : Int) ≤ (140737488355328 : Int) ∧ ((Int.toNat (0 : Int) ≤ m ∧ ∀ (j : Nat), j < Int.toNat (0 : Int) → ¬w.3 + w.10 * (tk p j + p j) - (tk w.dh j + w.7 j) < w.2 ∧ ¬w.1 < w.4 + w.10 * (tk p j + p j) - (tk w.dl j + w.6 j)) ∧ m = m ∧ (∀ (i : Nat), i < m → ((fun i => i6 (p i)) i).den = ((fun i => i6 (p i)) i).den ∧ True) ∧ (0 : Nat) = (0 : Nat) ∧ (0 : Nat) = (0 : Nat) ∧ Value.slice none (0 : Nat) (0 : Nat) = Value.slice none (0 : Nat) (0 : Nat) ∧ (0 : Int) = (0 : Int) ∧ (0 : Int) = (0 : Int) ∧ (0 : Nat) = (0 : Nat) ∧ (↑m : Int).toNat = m ∧ (0 : Int) = (0 : Int) ∧ m = m ∧ (∀ (i : Nat), i < m → ((fun i => i6 (p i)) i).den = ((fun i => i6 (p i)) i).den ∧ True) ∧ (↑m : Int) = (↑m : Int) ∧ (0 : Int) = (↑(Int.toNat (0 : Int)) : Int) ∧ w.1 = w.1 ∧ w.2 = w.2 ∧ w.3 = w.3 ∧ w.4 = w.4 ∧ w.5 = w.5 ∧ (∀ (i : Nat), i < w.5 → ((fun i => SV.agg [i6 (w.dl i), i6 (w.dh i)]) i).den = ((fun i => SV.agg [i6 (w.dl i), i6 (w.dh i)]) i).den ∧ True ∧ True ∧ True) ∧ w.8 = w.8 ∧ w.9 = w.9 ∧ w.10 = w.10 ∧ w.11 = w.11 ∧ w.12 = w.12 ∧ Fn.func (74 : FuncId) = Fn.func (74 : FuncId) ∧ w.5 = w.5 ∧ (∀ (i : Nat), i < w.5 → ((fun j => i6 ((fun j => w.s0 - tk w.dh (j + (1 : Nat))) j)) i).den = ((fun j => i6 ((fun j => w.s0 - tk w.dh (j + (1 : Nat))) j)) i).den ∧ True) ∧ w.10 = w.10 ∧ Fn.func (74 : FuncId) = Fn.func (74 : FuncId) ∧ w.5 = w.5 ∧ (∀ (i : Nat), i < w.5 → ((fun j => i6 ((fun j => w.s1 - tk w.dl (j + (1 : Nat))) j)) i).den = ((fun j => i6 ((fun j => w.s1 - tk w.dl (j + (1 : Nat))) j)) i).den ∧ True) ∧ w.10 = w.10 ∧ m = m ∧ (∀ (i : Nat), i < m → nat_lit 2 = nat_lit 2 ∧ ((0 : Int) = if i < Int.toNat (0 : Int) then w.3 - (tk w.dh (↑i : Int).toNat + w.7 (↑i : Int).toNat) + w.10 * (tk p i + p i) else (0 : Int)) ∧ ((0 : Int) = if i < Int.toNat (0 : Int) then w.4 - (tk w.dl (↑i : Int).toNat + w.6 (↑i : Int).toNat) + w.10 * (tk p i + p i) else (0 : Int)) ∧ True) ∧ True) ∧ ∀ (z : Nat), (z ≤ m ∧ ∀ (j : Nat), j < z → ¬w.3 + w.10 * (tk p j + p j) - (tk w.dh j + w.7 j) < w.2 ∧ ¬w.1 < w.4 + w.10 * (tk p j + p j) - (tk w.dl j + w.6 j)) → ((↑z : Int) < (↑m : Int) → (0 : Int) ≤ (↑z : Int) ∧ (↑z : Int) < (↑m : Int) ∧ ((-9223372036854775808 : Int) ≤ tk p z + p (↑z : Int).toNat ∧ tk p z + p (↑z : Int).toNat ≤ (9223372036854775807 : Int)) ∧ (0 : Nat) < nat_lit 1 ∧ (∀ (i : Nat), i < w.5 → True ∧ True ∧ True) ∧ (∀ (i : Nat), i < w.5 → True) ∧ (∀ (i : Nat), i < w.5 → True) ∧ keepV w = keepV w ∧ ((watchP w) ∧ (0 : Int) ≤ (↑z : Int) ∧ (↑z : Int) < (↑w.5 : Int) ∧ (0 : Int) ≤ tk p z + p (↑z : Int).toNat ∧ tk p z + p (↑z : Int).toNat ≤ (1000 : Int)) ∧ (¬(aE w (↑z : Int) (tk p z + p (↑z : Int).toNat)) = (0 : Int) → (0 : Nat) = N ∧ (↑z : Int) = H ∧ (aE w (↑z : Int) (tk p z + p (↑z : Int).toNat)) = E ∧ True) ∧ (¬¬(aE w (↑z : Int) (tk p z + p (↑z : Int).toNat)) = (0 : Int) → (0 : Nat) < nat_lit 1 ∧ (0 : Int) ≤ (↑z : Int) ∧ (↑z : Int) < (↑m : Int) ∧ (0 : Nat) + nat_lit 2 ≤ nat_lit 2 ∧ (0 : Nat) + (↑z : Int).toNat < m ∧ (∀ (i' : Nat), true = true) ∧ ((-9223372036854775808 : Int) ≤ (↑z : Int) + (1 : Int) ∧ (↑z : Int) + (1 : Int) ≤ (9223372036854775807 : Int)) ∧ (((↑z : Int) + (1 : Int)).toNat ≤ m ∧ ∀ (j : Nat), j < ((↑z : Int) + (1 : Int)).toNat → ¬w.3 + w.10 * (tk p j + p j) - (tk w.dh j + w.7 j) < w.2 ∧ ¬w.1 < w.4 + w.10 * (tk p j + p j) - (tk w.dl j + w.6 j)) ∧ m - ((↑z : Int) + (1 : Int)).toNat < m - z ∧ m = m ∧ (∀ (i : Nat), i < m → ((fun i => i6 (p i)) i).den = ((fun i => i6 (p i)) i).den ∧ True) ∧ (0 : Nat) = (0 : Nat) ∧ (0 : Nat) = (0 : Nat) ∧ Value.slice none (0 : Nat) (0 : Nat) = Value.slice none (0 : Nat) (0 : Nat) ∧ (0 : Int) = (0 : Int) ∧ (0 : Int) = (0 : Int) ∧ (0 : Nat) = (0 : Nat) ∧ m = m ∧ tk p z + p (↑z : Int).toNat = tk p z + p z ∧ m = m ∧ (∀ (i : Nat), i < m → ((fun i => i6 (p i)) i).den = ((fun i => i6 (p i)) i).den ∧ True) ∧ (↑m : Int) = (↑m : Int) ∧ (↑z : Int) + (1 : Int) = (↑((↑z : Int) + (1 : Int)).toNat : Int) ∧ w.1 = w.1 ∧ w.2 = w.2 ∧ w.3 = w.3 ∧ w.4 = w.4 ∧ w.5 = w.5 ∧ (∀ (i : Nat), i < w.5 → ((fun i => SV.agg [i6 (w.dl i), i6 (w.dh i)]) i).den = ((fun i => SV.agg [i6 (w.dl i), i6 (w.dh i)]) i).den ∧ True ∧ True ∧ True) ∧ w.8 = w.8 ∧ w.9 = w.9 ∧ w.10 = w.10 ∧ w.11 = w.11 ∧ w.12 = w.12 ∧ Fn.func (74 : FuncId) = Fn.func (74 : FuncId) ∧ w.5 = w.5 ∧ (∀ (i : Nat), i < w.5 → ((fun j => i6 ((fun j => w.s0 - tk w.dh (j + (1 : Nat))) j)) i).den = ((fun j => i6 ((fun j => w.s0 - tk w.dh (j + (1 : Nat))) j)) i).den ∧ True) ∧ w.10 = w.10 ∧ Fn.func (74 : FuncId) = Fn.func (74 : FuncId) ∧ w.5 = w.5 ∧ (∀ (i : Nat), i < w.5 → ((fun j => i6 ((fun j => w.s1 - tk w.dl (j + (1 : Nat))) j)) i).den = ((fun j => i6 ((fun j => w.s1 - tk w.dl (j + (1 : Nat))) j)) i).den ∧ True) ∧ w.10 = w.10 ∧ m = m ∧ (∀ (i : Nat), i < m → nat_lit 2 = nat_lit 2 ∧ ((if i = (0 : Nat) + (↑z : Int).toNat then (aX w (↑z : Int) (tk p z + p (↑z : Int).toNat)) else if i < z then w.3 - (tk w.dh (↑i : Int).toNat + w.7 (↑i : Int).toNat) + w.10 * (tk p i + p i) else (0 : Int)) = if i < ((↑z : Int) + (1 : Int)).toNat then w.3 - (tk w.dh (↑i : Int).toNat + w.7 (↑i : Int).toNat) + w.10 * (tk p i + p i) else (0 : Int)) ∧ ((if i = (0 : Nat) + (↑z : Int).toNat then (aY w (↑z : Int) (tk p z + p (↑z : Int).toNat)) else if i < z then w.4 - (tk w.dl (↑i : Int).toNat + w.6 (↑i : Int).toNat) + w.10 * (tk p i + p i) else (0 : Int)) = if i < ((↑z : Int) + (1 : Int)).toNat then w.4 - (tk w.dl (↑i : Int).toNat + w.6 (↑i : Int).toNat) + w.10 * (tk p i + p i) else (0 : Int)) ∧ True) ∧ True)) ∧ (¬(↑z : Int) < (↑m : Int) → m = N ∧ (0 : Nat) + N ≤ m ∧ (∀ (i : Nat), i < N → nat_lit 2 = (2 : Nat) ∧ nat_lit 2 = (2 : Nat) ∧ (if i + (0 : Nat) < z then w.3 - (tk w.dh (↑(i + (0 : Nat)) : Int).toNat + w.7 (↑(i + (0 : Nat)) : Int).toNat) + w.10 * (tk p i + p i) else (0 : Int)) = w.3 - (tk w.dh (↑i : Int).toNat + w.7 (↑i : Int).toNat) + w.10 * (tk p i + p i) ∧ (if i + (0 : Nat) < z then w.4 - (tk w.dl (↑(i + (0 : Nat)) : Int).toNat + w.6 (↑(i + (0 : Nat)) : Int).toNat) + w.10 * (tk p i + p i) else (0 : Int)) = w.4 - (tk w.dl (↑i : Int).toNat + w.6 (↑i : Int).toNat) + w.10 * (tk p i + p i) ∧ True) ∧ (↑m : Int) = H ∧ (0 : Int) = E ∧ True)
) := by kernel_rfl
end Go.Proofs.Ytoeolgeidpjgbaa

set_option linter.unusedVariables false
namespace Go.Proofs.Ytoeolgeidpjgbaa
open Go Go.Lg
attribute [local irreducible] funS
theorem aLo_eq (w : Wt) (p : Nat → Int) (z : Nat) : aLo w z (tk p z + p z) = loF w p z := by
  simp only [aLo, loF, Int.toNat_natCast, tk]; omega
theorem aHi_eq (w : Wt) (p : Nat → Int) (z : Nat) : aHi w z (tk p z + p z) = hiF w p z := by
  simp only [aHi, hiF, Int.toNat_natCast, tk]; omega
theorem follow_true (w : Wt) (m : Nat) (p : Nat → Int) (hw : watchP w) (hp : isPlanP w m p) : followG w m p (hN w m p) (hH w m p) (hEr w m p) := by
  rw [follow_vc]
  have hn := hw.1.1.2.2.2
  have hpm := hp.1
  have ht := tkP hw hp
  have hret := hw.1.2.1
  simp only [and_true, true_and, Int.toNat_natCast, implies_true, Int.toNat_zero, c0, lit1, and_self, Classical.not_not, Nat.zero_add, Nat.add_zero, Nat.not_lt_zero, if_false]
  refine ⟨by omega, by omega, by omega, by omega, ⟨Nat.zero_le _, fun j hj => by simp at hj⟩, fun z hz => ⟨fun hlt => ?_, fun hge => ?_⟩⟩
  · have pz := hp.2 z (by omega)
    have tz := ht z (by omega)
    have e : ((z : Int) + 1).toNat = z + 1 := by omega
    have e1 := aLo_eq w p z
    have e2 := aHi_eq w p z
    refine ⟨by omega, hlt, by omega, ⟨hw, by omega, by omega, by omega, by omega⟩, fun a => ?_, fun a => ?_⟩
    · by_cases c1 : loF w p z < w.least
      · have := h_short hw hp (by omega) hz.2 c1
        simpa only [aE, e1, e2, c1, if_true] using this
      · by_cases c2 : w.full < hiF w p z
        · have := h_full hw hp (by omega) hz.2 c1 c2
          simpa only [aE, e1, e2, c1, c2, if_true, if_false] using this
        · simp [aE, e1, e2, c1, c2] at a
    · have c1 : ¬ loF w p z < w.least := fun c1 => by simp [aE, e1, c1] at a
      have c2 : ¬ w.full < hiF w p z := fun c2 => by simp [aE, e1, e2, c1, c2] at a
      refine ⟨by omega, hlt, by omega, by omega, by omega, ⟨by omega, fun j hj => ?_⟩, by omega, by omega, fun i hi => ?_⟩
      · rw [e] at hj
        rcases Nat.lt_succ_iff_lt_or_eq.1 hj with h' | rfl
        · exact hz.2 j h'
        · exact ⟨c1, c2⟩
      · rw [e]
        by_cases d1 : i = z
        · subst d1
          simp only [if_true, Nat.lt_succ_self, aX, aY, e1, e2, c1, c2, if_false]
          rw [← e1, ← e2]
          exact ⟨rfl, rfl⟩
        · by_cases d2 : i < z
          · have : i < z + 1 := by omega
            simp only [d1, d2, this, if_true, if_false, and_self]
          · have : ¬ i < z + 1 := by omega
            simp only [d1, d2, this, if_false, and_self]
  · have : z = m := by omega
    subst this
    obtain ⟨a1, a2, a3⟩ := h_all hw hp hz.2
    refine ⟨a1, by omega, fun i hi => ?_, a2, a3⟩
    have : i < z := by omega
    simp only [this, if_true, and_self]
def followC : Ctr := ⟨52, fun args k => match args with
  | [x, .lst sz m f] => x = keepV (wOf x) ∧ sz = 1 ∧ f = (fun i => i6 (prI (f i))) ∧ (watchP (wOf x) ∧ isPlanP (wOf x) m (fun i => prI (f i))) ∧
      k (.tup [.lst 2 (hN (wOf x) m fun i => prI (f i)) (heldK (wOf x) fun i => prI (f i)), i6 (hH (wOf x) m fun i => prI (f i)), i6 (hEr (wOf x) m fun i => prI (f i))])
  | _ => False⟩
theorem follow_okF : followC.OkF Try.prog := by
  refine ⟨by kernel_rfl, fun args k hk => ?_⟩
  simp only [followC] at hk
  split at hk
  · rename_i x sz m f
    obtain ⟨hx, rfl, hf, ⟨h1, h2⟩, hk⟩ := hk
    have hh := follow_true (wOf x) m (fun i => prI (f i)) h1 h2
    unfold followG at hh
    rw [← hx, ← plan_eq hf] at hh
    exact ⟨_, funS_does csL_sound mixed hh, hk⟩
  · exact hk.elim
noncomputable def csH : CSpec := ctrsF [watchC 49, isPlanC 50, keepC, followC] csX
noncomputable def holdsK (w : Wt) (m : Nat) (p : Nat → Int) (N : Nat) (H E : Int) : Prop :=
  funS Try.prog csH (fun _ => none) 20 [w.sv, planV m p] (.tup [.lst 2 N (heldK w p), i6 H, i6 E])
end Go.Proofs.Ytoeolgeidpjgbaa
