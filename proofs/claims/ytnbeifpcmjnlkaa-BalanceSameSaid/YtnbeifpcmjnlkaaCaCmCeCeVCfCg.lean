import Derived.Test.YtnbeifpcmjnlkaaBkBlBo
set_option linter.unusedVariables false
set_option linter.unusedSimpArgs false
set_option maxRecDepth 100000
namespace Go.Proofs.Ytnbeifpcmjnlkaa
open Go Go.Lg
attribute [local irreducible] funS bodyH
theorem chE_ok {p : Pl} (hp : okP p) (h : Hof p) : chE p = 0 ∧ okN p = p.f.n := by
  have e : chE p = 0 := by rw [chE, if_pos hp, cEx_hof.2 h]; rfl
  exact ⟨e, by rw [okN, if_pos e]⟩
theorem chE_no {p : Pl} (hp : okP p) (h : ¬ Hof p) : chE p = 6 := by
  have : cEx p = true := by
    cases hc : cEx p
    · exact absurd (cEx_hof.1 hc) h
    · rfl
  rw [chE, if_pos hp, this]; rfl
structure okE (p : Pl) (i : Nat) (x : Int) : Prop where
  hp : okP p
  hi : i < p.f.n
  hx : -2147483648 ≤ x ∧ x ≤ 2147483648
end Go.Proofs.Ytnbeifpcmjnlkaa

namespace Go.Proofs.Ytnbeifpcmjnlkaa
open Go Go.Lg
structure same (p q : Pl) (m : Nat) (σ : Nat → Nat) : Prop where
  k : q.k = p.k
  IL : ∀ s, IL q.f s = IL p.f s
  IH : ∀ s, IH q.f s = IH p.f s
  OL : ∀ s, OL q.f s = OL p.f s
  OH : ∀ s, OH q.f s = OH p.f s
  at_ : ∀ i, i < m → q.f.fr i = p.f.fr (σ i) ∧ q.f.to i = p.f.to (σ i) ∧ q.f.lo i = p.f.lo (σ i) ∧ q.f.hi i = p.f.hi (σ i)
theorem same_bad {p q : Pl} {m σ} (h : same p q m σ) : bad q.f = bad p.f := by
  funext s
  unfold bad
  rw [h.OH, h.IL]
theorem same_c {p q : Pl} {m σ} (h : same p q m σ) : cEx q = cEx p ∧ cFs q = cFs p := by
  have e : cEx q = cEx p := by unfold cEx; rw [same_bad h, h.k]
  exact ⟨e, by unfold cFs; rw [e, same_bad h, h.k]⟩
theorem same_hof {p q : Pl} {m σ} (h : same p q m σ) : Hof q ↔ Hof p := by unfold Hof; rw [same_bad h, h.k]
theorem same_tgt {p q : Pl} {m σ} (h : same p q m σ) {i : Nat} (hi : i < m) (b : Bool) : ∀ j, tgt b q.f i j = tgt b p.f (σ i) j
  | 0 => by
    obtain ⟨_, _, h3, h4⟩ := h.at_ i hi
    cases b
    · exact h3
    · exact h4
  | j + 1 => by
    have ih := same_tgt h hi b j
    obtain ⟨h1, h2, h3, h4⟩ := h.at_ i hi
    have ht : tkB q.f j i = tkB p.f j (σ i) := by unfold tkB; rw [h1, h2]
    have hb : bnd b q.f i j = bnd b p.f (σ i) j := by unfold bnd; rw [h.OH, h.IL, h.OL, h.IH, h3, h4]
    simp only [tgt, ht, hb, ih]
theorem same_tg {p q : Pl} {m σ} (h : same p q m σ) {i : Nat} (hi : i < m) (b : Bool) : tgE b q i = tgE b p (σ i) := by
  unfold tgE
  rw [h.k]
  exact same_tgt h hi b _
def sq (h : Nat → Int) : Nat → Int
  | 0 => 0
  | k + 1 => sq h k + h k
theorem sq_congr {h g : Nat → Int} : ∀ {k : Nat}, (∀ i, i < k → h i = g i) → sq h k = sq g k
  | 0, _ => rfl
  | k + 1, H => by
    have ih := sq_congr (h := h) (g := g) (k := k) fun i hi => H i (by omega)
    simp only [sq, ih, H k (by omega)]
theorem sq_add (h : Nat → Int) (a : Nat) : ∀ b : Nat, sq h (a + b) = sq h a + sq (fun i => h (a + i)) b
  | 0 => by simp [sq]
  | b + 1 => by
    have ih := sq_add h a b
    show sq h (a + b) + h (a + b) = _
    rw [ih]
    simp only [sq]; omega
theorem sq_rot (h : Nat → Int) {n r : Nat} (hr : r < n) : sq (fun i => h ((i + r) % n)) n = sq h n := by
  have e1 : n = (n - r) + r := by omega
  have e2 : n = r + (n - r) := by omega
  have a1 : sq (fun i => h ((i + r) % n)) n = sq (fun i => h ((i + r) % n)) (n - r) + sq (fun i => h (((n - r + i) + r) % n)) r := by
    conv => lhs; arg 2; rw [e1]
    exact sq_add _ _ _
  have a2 : sq h n = sq h r + sq (fun i => h (r + i)) (n - r) := by
    conv => lhs; arg 2; rw [e2]
    exact sq_add _ _ _
  rw [a1, a2]
  have b1 : sq (fun i => h ((i + r) % n)) (n - r) = sq (fun i => h (r + i)) (n - r) := sq_congr fun i hi => by
    show h ((i + r) % n) = h (r + i)
    rw [Nat.mod_eq_of_lt (by omega), Nat.add_comm]
  have b2 : sq (fun i => h (((n - r + i) + r) % n)) r = sq h r := sq_congr fun i hi => by
    show h (((n - r + i) + r) % n) = h i
    rw [show n - r + i + r = i + n by omega, Nat.add_mod_right, Nat.mod_eq_of_lt (by omega)]
  rw [b1, b2]; omega
theorem sm_sq (p : Nat → Bool) (g : Nat → Int) : ∀ k : Nat, sm p g k = sq (fun i => bif p i then g i else 0) k
  | 0 => rfl
  | k + 1 => by simp only [sm, sq, sm_sq p g k]
theorem sm_rot (p : Nat → Bool) (g : Nat → Int) {n r : Nat} (hr : r < n) : sm (fun i => p ((i + r) % n)) (fun i => g ((i + r) % n)) n = sm p g n := by
  rw [sm_sq, sm_sq]
  exact sq_rot (fun i => bif p i then g i else 0) hr
def rotF (f : Fl) (t : Nat) : Fl := ⟨f.n, fun i => f.fr ((i + t) % f.n), fun i => f.to ((i + t) % f.n), fun i => f.lo ((i + t) % f.n), fun i => f.hi ((i + t) % f.n)⟩
theorem rot_same (p : Pl) (t : Nat) : same p ⟨p.k, rotF p.f t⟩ p.f.n fun i => (i + t) % p.f.n := by
  have key : ∀ (P : Nat → Bool) (g : Nat → Int), sm (fun i => P ((i + t) % p.f.n)) (fun i => g ((i + t) % p.f.n)) p.f.n = sm P g p.f.n := fun P g => by
    by_cases h0 : p.f.n = 0
    · rw [h0]; rfl
    · have := sm_rot P g (n := p.f.n) (r := t % p.f.n) (Nat.mod_lt _ (by omega))
      simpa only [Nat.add_mod_mod] using this
  exact ⟨rfl, fun s => key (tkB p.f s) p.f.lo, fun s => key (tkB p.f s) p.f.hi, fun s => key (gvB p.f s) p.f.lo, fun s => key (gvB p.f s) p.f.hi, fun i _ => ⟨rfl, rfl, rfl, rfl⟩⟩
def morF (f : Fl) (a b : Int) : Fl := ⟨f.n + 1, fun i => if i < f.n then f.fr i else a, fun i => if i < f.n then f.to i else b, fun i => if i < f.n then f.lo i else 0, fun i => if i < f.n then f.hi i else 0⟩
theorem mor_same (p : Pl) (a b : Int) : same p ⟨p.k, morF p.f a b⟩ p.f.n id := by
  have key : ∀ (P Q : Nat → Bool) (g h : Nat → Int), (∀ i, i < p.f.n → P i = Q i ∧ (P i = true → h i = g i)) → h p.f.n = 0 → sm P h (p.f.n + 1) = sm Q g p.f.n := fun P Q g h H h0 => by
    have e := sm_congr (p := P) (q := Q) (g := h) (h := g) (k := p.f.n) H
    by_cases hp : P p.f.n = true
    · rw [sm_y hp, e, h0]; omega
    · rw [sm_n hp, e]
  have z : ∀ (u v : Int), (if p.f.n < p.f.n then u else v) = v := fun u v => if_neg (Nat.lt_irrefl _)
  refine ⟨rfl, fun s => key _ _ _ _ (fun i hi => ⟨?_, fun _ => if_pos hi⟩) (z _ _), fun s => key _ _ _ _ (fun i hi => ⟨?_, fun _ => if_pos hi⟩) (z _ _), fun s => key _ _ _ _ (fun i hi => ⟨?_, fun _ => if_pos hi⟩) (z _ _), fun s => key _ _ _ _ (fun i hi => ⟨?_, fun _ => if_pos hi⟩) (z _ _), fun i hi => ⟨if_pos hi, if_pos hi, if_pos hi, if_pos hi⟩⟩
  all_goals simp [tkB, gvB, morF, hi]
theorem mor_ok {p : Pl} (hp : okP p) {a b : Int} (hn : p.f.n ≤ 15) (ha : 0 ≤ a ∧ a < p.k) (hb : 0 ≤ b ∧ b < p.k) (hab : ¬ a = b) : okP ⟨p.k, morF p.f a b⟩ := by
  refine ⟨hp.k, by show p.f.n + 1 ≤ 16; omega, fun i hi => ?_, fun i hi => ?_, fun i hi => ?_, fun i hi => ?_⟩
  · show 0 ≤ (if i < p.f.n then p.f.fr i else a) ∧ (if i < p.f.n then p.f.fr i else a) < p.k
    split
    · exact hp.fr i (by assumption)
    · exact ha
  · show 0 ≤ (if i < p.f.n then p.f.to i else b) ∧ (if i < p.f.n then p.f.to i else b) < p.k
    split
    · exact hp.to i (by assumption)
    · exact hb
  · show ¬ (if i < p.f.n then p.f.fr i else a) = (if i < p.f.n then p.f.to i else b)
    split
    · exact hp.ne i (by assumption)
    · exact hab
  · show 0 ≤ (if i < p.f.n then p.f.lo i else 0) ∧ (if i < p.f.n then p.f.lo i else 0) ≤ (if i < p.f.n then p.f.hi i else 0) ∧ (if i < p.f.n then p.f.hi i else 0) ≤ 1073741824
    split
    · exact hp.gas i (by assumption)
    · omega
theorem rot_ok {p : Pl} (hp : okP p) (t : Nat) : okP ⟨p.k, rotF p.f t⟩ := by
  have K : ∀ i, i < p.f.n → (i + t) % p.f.n < p.f.n := fun i hi => Nat.mod_lt _ (by omega)
  exact ⟨hp.k, hp.n, fun i hi => hp.fr _ (K i hi), fun i hi => hp.to _ (K i hi), fun i hi => hp.ne _ (K i hi), fun i hi => hp.gas _ (K i hi)⟩
def tigF (p : Pl) (m : Nat) : Fl := ⟨p.f.n, p.f.fr, p.f.to, fun i => if i < m then tgE false p i else p.f.lo i, fun i => if i < m then tgE true p i else p.f.hi i⟩
def tigP (p : Pl) : Pl := ⟨p.k, tigF p p.f.n⟩
theorem tig_at {p : Pl} {i : Nat} (hi : i < p.f.n) : (tigP p).f.lo i = tgE false p i ∧ (tigP p).f.hi i = tgE true p i := ⟨if_pos hi, if_pos hi⟩
theorem tit_ok {p : Pl} (hp : okP p) (h : Hof p) : okP (tigP p) := by
  refine ⟨hp.k, hp.n, hp.fr, hp.to, hp.ne, fun i hi => ?_⟩
  have hi : i < p.f.n := hi
  have g := tg_in hp h hi
  have q := hp.gas i hi
  rw [(tig_at hi).1, (tig_at hi).2]
  omega
theorem tig_isT {p : Pl} (hp : okP p) {x : Nat → Int} (h : IsT p x) : IsT (tigP p) x :=
  ⟨fun i hi => by
    have hi : i < p.f.n := hi
    rw [(tig_at hi).1, (tig_at hi).2]
    exact tg_of hp h hi, h.net⟩
theorem tig_tg {p : Pl} (hp : okP p) (h : Hof p) {i : Nat} (hi : i < p.f.n) : tgE false (tigP p) i = tgE false p i ∧ tgE true (tigP p) i = tgE true p i := by
  have ok := tit_ok hp h
  have hh : Hof (tigP p) := hof_of ok (tig_isT hp (tru_is hp h))
  have g := tg_in hp h hi
  have g2 := tg_in ok hh (i := i) hi
  rw [(tig_at hi).1, (tig_at hi).2] at g2
  obtain ⟨y, y1, y2⟩ := tg_ex hp h hi (x := tgE false p i) (by omega)
  obtain ⟨z, z1, z2⟩ := tg_ex hp h hi (x := tgE true p i) (by omega)
  have k1 := tg_of ok (tig_isT hp y1) (i := i) hi
  have k2 := tg_of ok (tig_isT hp z1) (i := i) hi
  omega
theorem tig_ch {p : Pl} (hp : okP p) (h : Hof p) : chE (tigP p) = 0 ∧ okN (tigP p) = p.f.n :=
  chE_ok (tit_ok hp h) (hof_of (tit_ok hp h) (tig_isT hp (tru_is hp h)))
end Go.Proofs.Ytnbeifpcmjnlkaa

set_option maxRecDepth 100000
namespace Go.Proofs.Ytnbeifpcmjnlkaa
open Go Go.Lg
attribute [local irreducible] bodyH
def nilP (z : Int) : Pl := ⟨z, ⟨0, fun _ => 0, fun _ => 0, fun _ => 0, fun _ => 0⟩⟩
noncomputable def tghM : Ctr := ⟨gTight, fun args k => match args with
  | [.agg [.int .i64 z, .val (.slice none 0 0)]] => k (.tup [spN (okN (nilP z)) (tgE false (nilP z)) (tgE true (nilP z)), i6 (chE (nilP z))])
  | [x] => x = (pOf x).sv ∧ k (.tup [spN (okN (pOf x)) (tgE false (pOf x)) (tgE true (pOf x)), i6 (chE (pOf x))])
  | _ => False⟩
noncomputable def wroM : Ctr := ⟨gWrong, fun args k => match args with
  | [.agg [.int .i64 z, .val (.slice none 0 0)]] => k (.tup [lstI (wrL (nilP z)), i6 (wrE (nilP z))])
  | [x] => x = (pOf x).sv ∧ k (.tup [lstI (wrL (pOf x)), i6 (wrE (pOf x))])
  | _ => False⟩
def v8 (z : Int) : SV := .int .u8 z
def rt (p : Pl) (a : Int) : Pl := ⟨p.k, rotF p.f a.toNat⟩
def fa (p : Pl) (b : Int) : Int := b.tmod p.k
def ta (p : Pl) (a b : Int) : Int := (fa p b + 1 + a.tmod (p.k - 1)).tmod p.k
def mo (p : Pl) (a b : Int) : Pl := ⟨p.k, morF p.f (fa p b) (ta p a b)⟩
noncomputable def saF (p : Pl) (a b : Int) (l : List (Nat × SV)) : FS := mkF 245 ((1, v8 a) :: (2, v8 b) :: (3, .ptr 0 0 0) :: (7, spN (okN p) (tgE false p) (tgE true p)) :: (8, i6 (chE p)) :: (9, lstI (wrL p)) :: (10, i6 (wrE p)) :: (11, i6 p.f.n) :: (12, .ptr 1 0 0) :: (13, .ptr 2 0 0) :: l)
def nlR (p : Pl) : Option SRow := vr 2 (.agg [i6 p.k, nilV])
theorem rdR {m : Nat} (t : FS) (X : XS) (k : Bool × Nat → Prop) (h : (match X.row m with
    | some R => (match R.f 0 with
      | .agg [_, .sl _ _ _] => ∃ z, k (true, z)
      | _ => ∃ z, k (false, z))
    | none => False)) : ∃ s, k s := by
  split at h
  · split at h
    · obtain ⟨z, h⟩ := h; exact ⟨_, h⟩
    · obtain ⟨z, h⟩ := h; exact ⟨_, h⟩
  · exact h.elim
noncomputable def twoH (nr : Nat) (inv : Bool × Nat → Prop) (μ : Bool × Nat → Nat) (ms : FS → XS → Ms) (t0 t1 : Nat → FS) (X0 X1 : Nat → XS) (D E : DS) : HSpec :=
  { toLSpec := { σ := Bool × Nat
                 inv := inv
                 μ := μ
                 nr := nr
                 ms := ms
                 t := fun z => match z.1 with
                   | false => t0 z.2
                   | true => t1 z.2
                 X := fun z => match z.1 with
                   | false => X0 z.2
                   | true => X1 z.2
                 rd := fun t X k => match X.row 1 with
                   | some R => (match R.f 0 with
                     | .agg [_, .sl _ _ _] => ∃ z, k (true, z)
                     | _ => ∃ z, k (false, z))
                   | none => False
                 rdOK := rdR }
    D := D
    E := E
    al := fun k => (∀ z, k (false, z)) ∧ ∀ z, k (true, z)
    alOK := fun k h z => match z with
      | (false, z) => h.1 z
      | (true, z) => h.2 z }
noncomputable def msR (m : Nat) (X : XS) : Ms := match X.row m with
  | some R => (match R.f 0 with
    | .agg [_, .sl r _ _] => [some r]
    | _ => [])
  | none => []
noncomputable def samL (p : Pl) (a b : Int) : Nat → Option HSpec :=
  twoL 1008 (regH 1 (fun t _ => match sget 245 t 12, sget 245 t 13 with
      | .ptr r _ _, .ptr s _ _ => [some r, some s]
      | _, _ => []) (saF p a b []) (mkX [vr 2 p.sv, vr 2 p.sv, vr 2 p.sv]) [(0, 0), (1, 0), (4, 1), (5, 1)] [] (some 1)) <|
  twoL 0 (twoH 3 (fun z => z.2 ≤ p.f.n ∧ (z.1 = false → z.2 = 0) ∧ okP p) (fun z => p.f.n - z.2) (fun _ X => msR 1 X) (fun z => saF p a b [(14, i6 z)]) (fun z => saF p a b [(14, i6 z)])
      (fun _ => mkX [vr 2 p.sv, nlR p, vr 2 p.sv]) (fun z => mkX [vr 2 p.sv, vr 2 (.agg [i6 p.k, .sl 3 0 z]), vr 2 p.sv, rw' 4 z (rt p a).f.el]) [] []) <|
  twoL 1015 (twoH 3 (fun z => z.2 = p.f.n ∧ (z.1 = false → z.2 = 0) ∧ okP p) (fun z => 0) (fun _ X => msR 1 X ++ msR 2 X) (fun z => saF p a b []) (fun z => saF p a b [])
      (fun z => mkX [vr 2 p.sv, nlR p, vr 2 (.agg [i6 p.k, .sl 3 0 (z + 1)]), rw' 4 (z + 1) (mo p a b).f.el]) (fun z => mkX [vr 2 p.sv, vr 2 (.agg [i6 p.k, .sl 3 0 z]), vr 2 (.agg [i6 p.k, .sl 4 0 (z + 1)]), rw' 4 z (rt p a).f.el, rw' 4 (z + 1) (mo p a b).f.el])
      [(2, 0), (10, 0), (15, 0), (21, 2)] [(3, 0), (19, 0)]) <|
  oneL 2 { toLSpec := { σ := Nat, inv := fun z => z ≤ p.f.n ∧ okP p ∧ Hof p, μ := fun z => p.f.n - z, nr := 1
                        ms := fun t X => match sget 245 t 22 with
                          | .ptr r _ _ => (match X.row r with
                            | some R => (match R.f 0 with
                              | .agg [_, .sl s _ _] => [some r, some s]
                              | _ => [])
                            | none => [])
                          | _ => []
                        t := fun z => mkF 245 [(1, v8 a), (3, .ptr 0 0 0), (7, spN (okN p) (tgE false p) (tgE true p)), (11, i6 p.f.n), (16, spN p.f.n (fun i => tgE false p ((i + a.toNat) % p.f.n)) (fun i => tgE true p ((i + a.toNat) % p.f.n))), (20, spN (okN (mo p a b)) (tgE false (mo p a b)) (tgE true (mo p a b))), (22, .ptr 1 0 0), (23, i6 z)]
                        X := fun z => mkX [vr 2 p.sv, vr 2 (.agg [i6 p.k, .sl 2 0 p.f.n]), rw' 4 p.f.n (tigF p z).el]
                        rd := fun _ _ k => ∃ z, k z
                        rdOK := fun _ _ _ h => h } }
noncomputable def csSa : CSpec := ctrs [awaC, tghM, wroM, valC hPlant, itsC, spsC]
noncomputable def samG (p : Pl) (a b : Int) : Prop := funH Try.prog csSa noX (ictrs []) (samL p a b) noL 8 [p.sv, v8 a, v8 b] (.bool true)
end Go.Proofs.Ytnbeifpcmjnlkaa

set_option maxRecDepth 100000
namespace Go.Proofs.Ytnbeifpcmjnlkaa
open Go Go.Lg
theorem samG_vc (p : Pl) (a : Int) (b : Int) : samG p a b =
 ((0 : Nat) < (1 : Nat) ∧ ((16 : Int) ≤ (↑p.f.1 : Int) → rE true ∧ True) ∧ (¬(16 : Int) ≤ (↑p.f.1 : Int) → (0 : Nat) < (1 : Nat) ∧ (∀ (i : Nat), i < p.f.1 → True ∧ True ∧ True ∧ True ∧ True) ∧ SV.agg [SV.int IntKind.i64 p.k, SV.lst (4 : Nat) p.f.n p.f.el] = (pOf (SV.agg [SV.int IntKind.i64 p.k, SV.lst (4 : Nat) p.f.n p.f.el])).sv ∧ (0 : Nat) < (1 : Nat) ∧ (∀ (i : Nat), i < p.f.1 → True ∧ True ∧ True ∧ True ∧ True) ∧ SV.agg [SV.int IntKind.i64 p.k, SV.lst (4 : Nat) p.f.n p.f.el] = (pOf (SV.agg [SV.int IntKind.i64 p.k, SV.lst (4 : Nat) p.f.n p.f.el])).sv ∧ (chE (pOf (SV.agg [SV.int IntKind.i64 p.k, SV.lst (4 : Nat) p.f.n p.f.el])) = (1 : Int) → (chE (pOf (SV.agg [SV.int IntKind.i64 p.k, SV.lst (4 : Nat) p.f.n p.f.el])) = (1 : Int) → (wrE (pOf (SV.agg [SV.int IntKind.i64 p.k, SV.lst (4 : Nat) p.f.n p.f.el])) = chE (pOf (SV.agg [SV.int IntKind.i64 p.k, SV.lst (4 : Nat) p.f.n p.f.el])) → rE
 true ∧ True) ∧ (¬wrE (pOf (SV.agg [SV.int IntKind.i64 p.k, SV.lst (4 : Nat) p.f.n p.f.el])) = chE (pOf (SV.agg [SV.int IntKind.i64 p.k, SV.lst (4 : Nat) p.f.n p.f.el])) → false = true ∧ True)) ∧ (¬chE (pOf (SV.agg [SV.int IntKind.i64 p.k, SV.lst (4 : Nat) p.f.n p.f.el])) = (1 : Int) → false = true ∧ True)) ∧ (¬chE (pOf (SV.agg [SV.int IntKind.i64 p.k, SV.lst (4 : Nat) p.f.n p.f.el])) = (1 : Int) → (0 : Nat) < (1 : Nat) ∧ (∀ (i : Nat), i < p.f.1 → True ∧ True ∧ True ∧ True ∧ True) ∧ SV.agg [SV.int IntKind.i64 p.k, SV.lst (4 : Nat) p.f.n p.f.el] = (pOf (SV.agg [SV.int IntKind.i64 p.k, SV.lst (4 : Nat) p.f.n p.f.el])).sv ∧ (¬okP (pOf (SV.agg [SV.int IntKind.i64 p.k, SV.lst (4 : Nat) p.f.n p.f.el])) → (chE (pOf (SV.agg [SV.int IntKind.i64 p.k, SV.lst (4 : Nat) p.f.n p.f.el])) = (1 : Int) → (wrE (pOf (SV.agg [SV.int IntKind.i64 p.k, SV.lst (4 : Nat) p.f.n p.f.el])) = chE (pOf (SV.agg [SV.int
 IntKind.i64 p.k, SV.lst (4 : Nat) p.f.n p.f.el])) → rE true ∧ True) ∧ (¬wrE (pOf (SV.agg [SV.int IntKind.i64 p.k, SV.lst (4 : Nat) p.f.n p.f.el])) = chE (pOf (SV.agg [SV.int IntKind.i64 p.k, SV.lst (4 : Nat) p.f.n p.f.el])) → false = true ∧ True)) ∧ (¬chE (pOf (SV.agg [SV.int IntKind.i64 p.k, SV.lst (4 : Nat) p.f.n p.f.el])) = (1 : Int) → false = true ∧ True)) ∧ (¬¬okP (pOf (SV.agg [SV.int IntKind.i64 p.k, SV.lst (4 : Nat) p.f.n p.f.el])) → (0 : Nat) < (1 : Nat) ∧ (True ∧ (0 : Nat) < (1 : Nat) ∧ True ∧ (0 : Nat) < (1 : Nat) ∧ (True ∧ True ∧ True ∧ True ∧ True ∧ a = a ∧ b = b ∧ rE (0 : Nat) ∧ rE (0 : Nat) ∧ okN (pOf (SV.agg [SV.int IntKind.i64 p.k, SV.lst (4 : Nat) p.f.n p.f.el])) = okN p ∧ (∀ (i : Nat), i < okN p → (SV.agg [i6 (tgE false (pOf (SV.agg [SV.int IntKind.i64 p.k, SV.lst (4 : Nat) p.f.n p.f.el])) i), i6 (tgE true (pOf (SV.agg [SV.int IntKind.i64 p.k, SV.lst (4 : Nat) p.f.n
 p.f.el])) i)]).den = (SV.agg [i6 (tgE false p i), i6 (tgE true p i)]).den ∧ True ∧ True ∧ True) ∧ chE (pOf (SV.agg [SV.int IntKind.i64 p.k, SV.lst (4 : Nat) p.f.n p.f.el])) = chE p ∧ (wrL (pOf (SV.agg [SV.int IntKind.i64 p.k, SV.lst (4 : Nat) p.f.n p.f.el]))).length = (wrL p).length ∧ (∀ (i : Nat), i < (wrL p).length → (i6 (↑((wrL (pOf (SV.agg [SV.int IntKind.i64 p.k, SV.lst (4 : Nat) p.f.n p.f.el]))).getD i (0 : Nat)) : Int)).den = (i6 (↑((wrL p).getD i (0 : Nat)) : Int)).den ∧ True) ∧ wrE (pOf (SV.agg [SV.int IntKind.i64 p.k, SV.lst (4 : Nat) p.f.n p.f.el])) = wrE p ∧ rE (↑p.f.1 : Int) ∧ rE (0 : Nat) ∧ rE (0 : Nat) ∧ rE (0 : Nat) ∧ rE (0 : Nat) ∧ p.1 = p.1 ∧ rE p.f.1 ∧ (∀ (i : Nat), i < p.f.1 → rE ((p.f.el i).den) ∧ True ∧ True ∧ True ∧ True ∧ True) ∧ p.1 = p.1 ∧ rE p.f.1 ∧ (∀ (i : Nat), i < p.f.1 → rE ((p.f.el i).den) ∧ True ∧ True ∧ True ∧ True ∧ True) ∧ p.1 = p.1 ∧ rE p.f.1 ∧ (∀ (i
 : Nat), i < p.f.1 → rE ((p.f.el i).den) ∧ True ∧ True ∧ True ∧ True ∧ True) ∧ True) ∧ (True ∧ True ∧ True ∧ True ∧ True ∧ a = a ∧ b = b ∧ rE (0 : Nat) ∧ rE (0 : Nat) ∧ okN (pOf (SV.agg [SV.int IntKind.i64 p.k, SV.lst (4 : Nat) p.f.n p.f.el])) = okN p ∧ (∀ (i : Nat), i < okN p → (SV.agg [i6 (tgE false (pOf (SV.agg [SV.int IntKind.i64 p.k, SV.lst (4 : Nat) p.f.n p.f.el])) i), i6 (tgE true (pOf (SV.agg [SV.int IntKind.i64 p.k, SV.lst (4 : Nat) p.f.n p.f.el])) i)]).den = (SV.agg [i6 (tgE false p i), i6 (tgE true p i)]).den ∧ True ∧ True ∧ True) ∧ chE (pOf (SV.agg [SV.int IntKind.i64 p.k, SV.lst (4 : Nat) p.f.n p.f.el])) = chE p ∧ (wrL (pOf (SV.agg [SV.int IntKind.i64 p.k, SV.lst (4 : Nat) p.f.n p.f.el]))).length = (wrL p).length ∧ (∀ (i : Nat), i < (wrL p).length → (i6 (↑((wrL (pOf (SV.agg [SV.int IntKind.i64 p.k, SV.lst (4 : Nat) p.f.n p.f.el]))).getD i (0 : Nat)) : Int)).den = (i6 (↑((wrL
 p).getD i (0 : Nat)) : Int)).den ∧ True) ∧ wrE (pOf (SV.agg [SV.int IntKind.i64 p.k, SV.lst (4 : Nat) p.f.n p.f.el])) = wrE p ∧ rE (↑p.f.1 : Int) ∧ rE (0 : Nat) ∧ rE (0 : Nat) ∧ rE (0 : Nat) ∧ rE (0 : Nat) ∧ p.1 = p.1 ∧ rE p.f.1 ∧ (∀ (i : Nat), i < p.f.1 → rE ((p.f.el i).den) ∧ True ∧ True ∧ True ∧ True ∧ True) ∧ p.1 = p.1 ∧ rE p.f.1 ∧ (∀ (i : Nat), i < p.f.1 → rE ((p.f.el i).den) ∧ True ∧ True ∧ True ∧ True ∧ True) ∧ p.1 = p.1 ∧ rE p.f.1 ∧ (∀ (i : Nat), i < p.f.1 → rE ((p.f.el i).den) ∧ True ∧ True ∧ True ∧ True ∧ True) ∧ True) ∧ True) ∧ ∀ (z : Unit), True → (∃ z, (z ≤ p.f.1 ∧ (rE false → z = (0 : Nat)) ∧ okP p) ∧ a = a ∧ b = b ∧ rE (0 : Nat) ∧ rE (0 : Nat) ∧ rE (okN p) ∧ (∀ (i : Nat), i < okN p → rE ((SV.agg [i6 (tgE false p i), i6 (tgE true p i)]).den) ∧ True ∧ True ∧ True) ∧ rE (chE p) ∧ rE ((wrL p).length) ∧ (∀ (i : Nat), i < (wrL p).length → rE ((i6 (↑((wrL p).getD i (0 : Nat)) :
 Int)).den) ∧ True) ∧ rE (wrE p) ∧ rE (↑p.f.1 : Int) ∧ rE (0 : Nat) ∧ rE (0 : Nat) ∧ rE (0 : Nat) ∧ rE (0 : Nat) ∧ (0 : Int) = (↑z : Int) ∧ p.1 = p.1 ∧ rE p.f.1 ∧ (∀ (i : Nat), i < p.f.1 → rE ((p.f.el i).den) ∧ True ∧ True ∧ True ∧ True ∧ True) ∧ p.1 = p.1 ∧ rE (Value.slice none (0 : Nat) (0 : Nat)) ∧ p.1 = p.1 ∧ rE p.f.1 ∧ (∀ (i : Nat), i < p.f.1 → rE ((p.f.el i).den) ∧ True ∧ True ∧ True ∧ True ∧ True) ∧ True) ∧ (∀ (z : Nat), z ≤ p.f.1 ∧ (rE false → z = (0 : Nat)) ∧ okP p → ((↑z : Int) < (↑p.f.1 : Int) → (0 : Nat) < (1 : Nat) ∧ (0 : Nat) < (1 : Nat) ∧ rI (a) ∧ rI ((↑z : Int) + a) ∧ ((↑p.f.1 : Int) = (0 : Int) → False) ∧ (0 : Int) ≤ ((↑z : Int) + a).tmod (↑p.f.1 : Int) ∧ ((↑z : Int) + a).tmod (↑p.f.1 : Int) < (↑p.f.1 : Int) ∧ True ∧ (∀ (i : Nat), i < (1 : Nat) → rE true) ∧ (1 : Nat) * (32 : Nat) ≤ (140737488355328 : Nat) ∧ (1 : Nat) ≤ (4611686018427387904 : Nat) ∧ rI ((↑z : Int) + (1 :
 Int)) ∧ ∃ z_1, (z_1 ≤ p.f.1 ∧ (true = false → z_1 = (0 : Nat)) ∧ okP p) ∧ p.f.1 - z_1 < p.f.1 - z ∧ a = a ∧ b = b ∧ rE (0 : Nat) ∧ rE (0 : Nat) ∧ rE (okN p) ∧ (∀ (i : Nat), i < okN p → rE ((SV.agg [i6 (tgE false p i), i6 (tgE true p i)]).den) ∧ True ∧ True ∧ True) ∧ rE (chE p) ∧ rE ((wrL p).length) ∧ (∀ (i : Nat), i < (wrL p).length → rE ((i6 (↑((wrL p).getD i (0 : Nat)) : Int)).den) ∧ True) ∧ rE (wrE p) ∧ rE (↑p.f.1 : Int) ∧ rE (0 : Nat) ∧ rE (0 : Nat) ∧ rE (0 : Nat) ∧ rE (0 : Nat) ∧ (↑z : Int) + (1 : Int) = (↑z_1 : Int) ∧ p.1 = p.1 ∧ rE p.f.1 ∧ (∀ (i : Nat), i < p.f.1 → rE ((p.f.el i).den) ∧ True ∧ True ∧ True ∧ True ∧ True) ∧ p.1 = p.1 ∧ rE (0 : Nat) ∧ (1 : Nat) = z_1 ∧ p.1 = p.1 ∧ rE p.f.1 ∧ (∀ (i : Nat), i < p.f.1 → rE ((p.f.el i).den) ∧ True ∧ True ∧ True ∧ True ∧ True) ∧ z_1 = (1 : Nat) ∧ (∀ (i : Nat), i < z_1 → rE (4 : Nat) ∧ p.f.2 (((↑z : Int) + a).tmod (↑p.f.n : Int)).toNat =
 p.f.2 ((i + a.toNat) % p.f.n) ∧ p.f.3 (((↑z : Int) + a).tmod (↑p.f.n : Int)).toNat = p.f.3 ((i + a.toNat) % p.f.n) ∧ p.f.4 (((↑z : Int) + a).tmod (↑p.f.n : Int)).toNat = p.f.4 ((i + a.toNat) % p.f.n) ∧ p.f.5 (((↑z : Int) + a).tmod (↑p.f.n : Int)).toNat = p.f.5 ((i + a.toNat) % p.f.n) ∧ True) ∧ True) ∧ (¬(↑z : Int) < (↑p.f.1 : Int) → rI (b) ∧ (0 : Nat) < (1 : Nat) ∧ (p.1 = (0 : Int) → False) ∧ (True ∧ True ∧ True ∧ True ∧ (0 : Nat) < (1 : Nat) ∧ True ∧ True ∧ True ∧ True ∧ True ∧ True ∧ rI (b.tmod p.1 + (1 : Int)) ∧ True ∧ True ∧ True ∧ True ∧ rI (a) ∧ True ∧ True ∧ True ∧ True ∧ (0 : Nat) < (1 : Nat) ∧ True ∧ True ∧ rI (p.1 - (1 : Int)) ∧ True ∧ True ∧ (p.1 - (1 : Int) = (0 : Int) → False) ∧ True ∧ True ∧ rI (b.tmod p.1 + (1 : Int) + a.tmod (p.1 - (1 : Int))) ∧ True ∧ True ∧ True ∧ True ∧ (0 : Nat) < (1 : Nat) ∧ True ∧ True ∧ (p.1 = (0 : Int) → False) ∧ True ∧ True ∧ True ∧ True ∧ True
 ∧ (True ∧ True ∧ True ∧ True ∧ (∀ (i : Nat), i < p.f.1 → rE true) ∧ rE (0 : Nat) ∧ rE (0 : Nat) ∧ (∀ (i : Nat), rE true) ∧ ((0 : Nat) + p.f.1) * (32 : Nat) ≤ (140737488355328 : Nat) ∧ (0 : Nat) + p.f.1 ≤ (4611686018427387904 : Nat) ∧ True ∧ True ∧ (∀ (i : Nat), i < (1 : Nat) → rE true) ∧ rE (0 : Nat) ∧ rE ((0 : Nat) + p.f.1) ∧ (∀ (i : Nat), rE true) ∧ ((0 : Nat) + p.f.1 + (1 : Nat)) * (32 : Nat) ≤ (140737488355328 : Nat) ∧ (0 : Nat) + p.f.1 + (1 : Nat) ≤ (4611686018427387904 : Nat) ∧ True ∧ True ∧ True ∧ True ∧ ∃ z, (z = p.f.1 ∧ (rE false → z = (0 : Nat)) ∧ okP p) ∧ a = a ∧ b = b ∧ rE (0 : Nat) ∧ rE (0 : Nat) ∧ rE (okN p) ∧ (∀ (i : Nat), i < okN p → rE ((SV.agg [i6 (tgE false p i), i6 (tgE true p i)]).den) ∧ True ∧ True ∧ True) ∧ rE (chE p) ∧ rE ((wrL p).length) ∧ (∀ (i : Nat), i < (wrL p).length → rE ((i6 (↑((wrL p).getD i (0 : Nat)) : Int)).den) ∧ True) ∧ rE (wrE p) ∧ rE (↑p.f.1 :
 Int) ∧ rE (0 : Nat) ∧ rE (0 : Nat) ∧ rE (0 : Nat) ∧ rE (0 : Nat) ∧ p.1 = p.1 ∧ rE p.f.1 ∧ (∀ (i : Nat), i < p.f.1 → rE ((p.f.el i).den) ∧ True ∧ True ∧ True ∧ True ∧ True) ∧ p.1 = p.1 ∧ rE (Value.slice none (0 : Nat) (0 : Nat)) ∧ p.1 = p.1 ∧ rE (0 : Nat) ∧ (0 : Nat) + p.f.1 + (1 : Nat) = z + (1 : Nat) ∧ z + (1 : Nat) = (0 : Nat) + p.f.1 + (1 : Nat) ∧ (∀ (i : Nat), i < z + (1 : Nat) → rE (4 : Nat) ∧ ((if i < (0 : Nat) + p.f.1 then if i < (0 : Nat) then (0 : Int) else p.f.2 (i - (0 : Nat)) else b.tmod p.1) = if i < p.f.1 then p.f.2 i else fa p b) ∧ ((if i < (0 : Nat) + p.f.1 then if i < (0 : Nat) then (0 : Int) else p.f.3 (i - (0 : Nat)) else (b.tmod p.1 + (1 : Int) + a.tmod (p.1 - (1 : Int))).tmod p.1) = if i < p.f.1 then p.f.3 i else ta p a b) ∧ ((if i < (0 : Nat) + p.f.1 then if i < (0 : Nat) then (0 : Int) else p.f.4 (i - (0 : Nat)) else (0 : Int)) = if i < p.f.1 then p.f.4 i else (0
 : Int)) ∧ ((if i < (0 : Nat) + p.f.1 then if i < (0 : Nat) then (0 : Int) else p.f.5 (i - (0 : Nat)) else (0 : Int)) = if i < p.f.1 then p.f.5 i else (0 : Int)) ∧ True) ∧ True) ∧ True) ∧ (∀ (z : Nat), z = p.f.1 ∧ (rE false → z = (0 : Nat)) ∧ okP p → (0 : Nat) < (1 : Nat) ∧ (0 : Nat) < (1 : Nat) ∧ (0 : Nat) < (1 : Nat) ∧ (0 : Nat) + (z + (1 : Nat)) ≤ z + (1 : Nat) ∧ (∀ (i : Nat), i < z + (1 : Nat) → rE (4 : Nat) ∧ True ∧ True ∧ True ∧ True ∧ True) ∧ SV.agg [SV.int IntKind.i64 p.k, SV.lst (4 : Nat) (z + (1 : Nat)) fun i => (mo p a b).f.el (i + (0 : Nat))] = (pOf (SV.agg [SV.int IntKind.i64 p.k, SV.lst (4 : Nat) (z + (1 : Nat)) fun i => (mo p a b).f.el (i + (0 : Nat))])).sv ∧ (¬chE (nilP p.k) = chE p → false = true ∧ True) ∧ (¬¬chE (nilP p.k) = chE p → (¬wrE (nilP p.k) = wrE p → false = true ∧ True) ∧ (¬¬wrE (nilP p.k) = wrE p → (∀ (i : Nat), i < (wrL p).length → True) ∧ (∀ (i : Nat), i <
 (wrL (nilP p.k)).length → True) ∧ ((SV.lst (1 : Nat) (wrL p).length fun k => i6 (↑((wrL p).getD k (0 : Nat)) : Int)) = liN (wrL p).length fun i => prI (i6 (↑((wrL p).getD i (0 : Nat)) : Int))) ∧ ((SV.lst (1 : Nat) (wrL (nilP p.k)).length fun k => i6 (↑((wrL (nilP p.k)).getD k (0 : Nat)) : Int)) = liN (wrL (nilP p.k)).length fun i => prI (i6 (↑((wrL (nilP p.k)).getD i (0 : Nat)) : Int))) ∧ (wrL p).length ≤ (100000 : Nat) ∧ (¬((wrL p).length = (wrL (nilP p.k)).length ∧ ∀ (i : Nat), i < (wrL p).length → (↑((wrL p).getD i (0 : Nat)) : Int) = (↑((wrL (nilP p.k)).getD i (0 : Nat)) : Int)) → false = true ∧ True) ∧ (¬¬((wrL p).length = (wrL (nilP p.k)).length ∧ ∀ (i : Nat), i < (wrL p).length → (↑((wrL p).getD i (0 : Nat)) : Int) = (↑((wrL (nilP p.k)).getD i (0 : Nat)) : Int)) → (¬chE (pOf (SV.agg [SV.int IntKind.i64 p.k, SV.lst (4 : Nat) (z + (1 : Nat)) fun i => (mo p a b).f.el (i + (0 :
 Nat))])) = chE p → false = true ∧ True) ∧ (¬¬chE (pOf (SV.agg [SV.int IntKind.i64 p.k, SV.lst (4 : Nat) (z + (1 : Nat)) fun i => (mo p a b).f.el (i + (0 : Nat))])) = chE p → (¬chE p = (0 : Int) → (chE p = (6 : Int) → (wrE p = (0 : Int) → ((↑(okN p) : Int) = (0 : Int) → rE true ∧ True) ∧ (¬(↑(okN p) : Int) = (0 : Int) → false = true ∧ True)) ∧ (¬wrE p = (0 : Int) → false = true ∧ True)) ∧ (¬chE p = (6 : Int) → false = true ∧ True)) ∧ (¬¬chE p = (0 : Int) → (¬(↑(okN (nilP p.k)) : Int) = (↑p.f.1 : Int) → false = true ∧ True) ∧ (¬¬(↑(okN (nilP p.k)) : Int) = (↑p.f.1 : Int) → rI ((↑p.f.1 : Int) + (1 : Int)) ∧ (¬(↑(okN (pOf (SV.agg [SV.int IntKind.i64 p.k, SV.lst (4 : Nat) (z + (1 : Nat)) fun i => (mo p a b).f.el (i + (0 : Nat))]))) : Int) = (↑p.f.1 : Int) + (1 : Int) → false = true ∧ True) ∧ (¬¬(↑(okN (pOf (SV.agg [SV.int IntKind.i64 p.k, SV.lst (4 : Nat) (z + (1 : Nat)) fun i => (mo p a
 b).f.el (i + (0 : Nat))]))) : Int) = (↑p.f.1 : Int) + (1 : Int) → (¬(↑(okN p) : Int) = (↑p.f.1 : Int) → false = true ∧ True) ∧ (¬¬(↑(okN p) : Int) = (↑p.f.1 : Int) → (0 : Int) ≤ (↑p.f.1 : Int) ∧ (↑p.f.1 : Int) < (↑(okN (pOf (SV.agg [SV.int IntKind.i64 p.k, SV.lst (4 : Nat) (z + (1 : Nat)) fun i => (mo p a b).f.el (i + (0 : Nat))]))) : Int) ∧ (¬(tgE false (pOf (SV.agg [SV.int IntKind.i64 p.k, SV.lst (4 : Nat) (z + (1 : Nat)) fun i => (mo p a b).f.el (i + (0 : Nat))])) (↑p.f.1 : Int).toNat = (0 : Int) ∧ tgE true (pOf (SV.agg [SV.int IntKind.i64 p.k, SV.lst (4 : Nat) (z + (1 : Nat)) fun i => (mo p a b).f.el (i + (0 : Nat))])) (↑p.f.1 : Int).toNat = (0 : Int)) → false = true ∧ True) ∧ (¬¬(tgE false (pOf (SV.agg [SV.int IntKind.i64 p.k, SV.lst (4 : Nat) (z + (1 : Nat)) fun i => (mo p a b).f.el (i + (0 : Nat))])) (↑p.f.1 : Int).toNat = (0 : Int) ∧ tgE true (pOf (SV.agg [SV.int IntKind.i64
 p.k, SV.lst (4 : Nat) (z + (1 : Nat)) fun i => (mo p a b).f.el (i + (0 : Nat))])) (↑p.f.1 : Int).toNat = (0 : Int)) → (0 : Nat) < (1 : Nat) ∧ (0 : Nat) < (1 : Nat) ∧ (∀ (i : Nat), i < p.f.1 → rE true) ∧ rE (0 : Nat) ∧ rE (0 : Nat) ∧ (∀ (i : Nat), rE true) ∧ ((0 : Nat) + p.f.1) * (32 : Nat) ≤ (140737488355328 : Nat) ∧ (0 : Nat) + p.f.1 ≤ (4611686018427387904 : Nat) ∧ (∃ z_1, (z_1 ≤ p.f.1 ∧ okP p ∧ ∀ (s : Nat), s < pwk p.1 → bad p.f s = false) ∧ a = a ∧ rE (0 : Nat) ∧ rE (0 : Nat) ∧ rE (okN p) ∧ (∀ (i : Nat), i < okN p → rE ((SV.agg [i6 (tgE false p i), i6 (tgE true p i)]).den) ∧ True ∧ True ∧ True) ∧ rE (↑p.f.1 : Int) ∧ okN (nilP p.k) = p.f.1 ∧ (∀ (i : Nat), i < p.f.1 → (SV.agg [i6 (tgE false (nilP p.k) i), i6 (tgE true (nilP p.k) i)]).den = (SV.agg [i6 (tgE false p ((i + a.toNat) % p.f.n)), i6 (tgE true p ((i + a.toNat) % p.f.n))]).den ∧ True ∧ True ∧ True) ∧ okN (pOf (SV.agg [SV.int
 IntKind.i64 p.k, SV.lst (4 : Nat) (z + (1 : Nat)) fun i => (mo p a b).f.el (i + (0 : Nat))])) = okN (mo p a b) ∧ (∀ (i : Nat), i < okN (mo p a b) → (SV.agg [i6 (tgE false (pOf (SV.agg [SV.int IntKind.i64 p.k, SV.lst (4 : Nat) (z + (1 : Nat)) fun i => (mo p a b).f.el (i + (0 : Nat))])) i), i6 (tgE true (pOf (SV.agg [SV.int IntKind.i64 p.k, SV.lst (4 : Nat) (z + (1 : Nat)) fun i => (mo p a b).f.el (i + (0 : Nat))])) i)]).den = (SV.agg [i6 (tgE false (mo p a b) i), i6 (tgE true (mo p a b) i)]).den ∧ True ∧ True ∧ True) ∧ rE (0 : Nat) ∧ rE (0 : Nat) ∧ (0 : Int) = (↑z_1 : Int) ∧ p.1 = p.1 ∧ rE p.f.1 ∧ (∀ (i : Nat), i < p.f.1 → rE ((p.f.el i).den) ∧ True ∧ True ∧ True ∧ True ∧ True) ∧ p.1 = p.1 ∧ rE (0 : Nat) ∧ (0 : Nat) + p.f.1 = p.f.1 ∧ p.f.1 = (0 : Nat) + p.f.1 ∧ (∀ (i : Nat), i < p.f.1 → rE (4 : Nat) ∧ (if i < (0 : Nat) then (0 : Int) else p.f.2 (i - (0 : Nat))) = p.f.2 i ∧ (if i < (0 :
 Nat) then (0 : Int) else p.f.3 (i - (0 : Nat))) = p.f.3 i ∧ ((if i < (0 : Nat) then (0 : Int) else p.f.4 (i - (0 : Nat))) = if i < z_1 then tgE false p i else p.f.4 i) ∧ ((if i < (0 : Nat) then (0 : Int) else p.f.5 (i - (0 : Nat))) = if i < z_1 then tgE true p i else p.f.5 i) ∧ True) ∧ True) ∧ ∀ (z : Nat), (z ≤ p.f.1 ∧ okP p ∧ ∀ (s : Nat), s < pwk p.1 → bad p.f s = false) → ((↑z : Int) < (↑p.f.1 : Int) → (0 : Int) ≤ (↑z : Int) ∧ (↑z : Int) < (↑p.f.1 : Int) ∧ rI (a) ∧ rI ((↑z : Int) + a) ∧ ((↑p.f.1 : Int) = (0 : Int) → False) ∧ (0 : Int) ≤ ((↑z : Int) + a).tmod (↑p.f.1 : Int) ∧ ((↑z : Int) + a).tmod (↑p.f.1 : Int) < (↑(okN p) : Int) ∧ (¬(tgE false p (((↑z : Int).toNat + a.toNat) % p.f.1) = tgE false p (((↑z : Int) + a).tmod (↑p.f.1 : Int)).toNat ∧ tgE true p (((↑z : Int).toNat + a.toNat) % p.f.1) = tgE true p (((↑z : Int) + a).tmod (↑p.f.1 : Int)).toNat) → false = true ∧ True) ∧ (¬¬(tgE
 false p (((↑z : Int).toNat + a.toNat) % p.f.1) = tgE false p (((↑z : Int) + a).tmod (↑p.f.1 : Int)).toNat ∧ tgE true p (((↑z : Int).toNat + a.toNat) % p.f.1) = tgE true p (((↑z : Int) + a).tmod (↑p.f.1 : Int)).toNat) → (0 : Int) ≤ (↑z : Int) ∧ (↑z : Int) < (↑(okN (mo p a b)) : Int) ∧ (0 : Int) ≤ (↑z : Int) ∧ (↑z : Int) < (↑(okN p) : Int) ∧ (¬(tgE false (mo p a b) (↑z : Int).toNat = tgE false p (↑z : Int).toNat ∧ tgE true (mo p a b) (↑z : Int).toNat = tgE true p (↑z : Int).toNat) → false = true ∧ True) ∧ (¬¬(tgE false (mo p a b) (↑z : Int).toNat = tgE false p (↑z : Int).toNat ∧ tgE true (mo p a b) (↑z : Int).toNat = tgE true p (↑z : Int).toNat) → (0 : Nat) < (1 : Nat) ∧ (0 : Int) ≤ (↑z : Int) ∧ (↑z : Int) < (↑(okN p) : Int) ∧ (0 : Int) ≤ (↑z : Int) ∧ (↑z : Int) < (↑p.f.1 : Int) ∧ (2 : Nat) + (2 : Nat) ≤ (4 : Nat) ∧ (0 : Nat) + (↑z : Int).toNat < p.f.1 ∧ (∀ (i' : Nat), rE true) ∧ rI ((↑z
 : Int) + (1 : Int)) ∧ ∃ z_1, (z_1 ≤ p.f.1 ∧ okP p ∧ ∀ (s : Nat), s < pwk p.1 → bad p.f s = false) ∧ p.f.1 - z_1 < p.f.1 - z ∧ a = a ∧ rE (0 : Nat) ∧ rE (0 : Nat) ∧ rE (okN p) ∧ (∀ (i : Nat), i < okN p → rE ((SV.agg [i6 (tgE false p i), i6 (tgE true p i)]).den) ∧ True ∧ True ∧ True) ∧ rE (↑p.f.1 : Int) ∧ rE p.f.1 ∧ (∀ (i : Nat), i < p.f.1 → rE ((SV.agg [i6 (tgE false p ((i + a.toNat) % p.f.n)), i6 (tgE true p ((i + a.toNat) % p.f.n))]).den) ∧ True ∧ True ∧ True) ∧ rE (okN (mo p a b)) ∧ (∀ (i : Nat), i < okN (mo p a b) → rE ((SV.agg [i6 (tgE false (mo p a b) i), i6 (tgE true (mo p a b) i)]).den) ∧ True ∧ True ∧ True) ∧ rE (0 : Nat) ∧ rE (0 : Nat) ∧ (↑z : Int) + (1 : Int) = (↑z_1 : Int) ∧ p.1 = p.1 ∧ rE p.f.1 ∧ (∀ (i : Nat), i < p.f.1 → rE ((p.f.el i).den) ∧ True ∧ True ∧ True ∧ True ∧ True) ∧ p.1 = p.1 ∧ rE (0 : Nat) ∧ rE p.f.1 ∧ rE p.f.1 ∧ (∀ (i : Nat), i < p.f.1 → rE (4 : Nat) ∧ (if i =
 (0 : Nat) + (↑z : Int).toNat then p.f.2 i else p.f.2 i) = p.f.2 i ∧ (if i = (0 : Nat) + (↑z : Int).toNat then p.f.3 i else p.f.3 i) = p.f.3 i ∧ ((if i = (0 : Nat) + (↑z : Int).toNat then tgE false p (↑z : Int).toNat else if i < z then tgE false p i else p.f.4 i) = if i < z_1 then tgE false p i else p.f.4 i) ∧ ((if i = (0 : Nat) + (↑z : Int).toNat then tgE true p (↑z : Int).toNat else if i < z then tgE true p i else p.f.5 i) = if i < z_1 then tgE true p i else p.f.5 i) ∧ True) ∧ True))) ∧ (¬(↑z : Int) < (↑p.f.1 : Int) → (0 : Nat) < (1 : Nat) ∧ (0 : Nat) + p.f.1 ≤ p.f.1 ∧ (∀ (i : Nat), i < p.f.1 → rE (4 : Nat) ∧ True ∧ True ∧ True ∧ True ∧ True) ∧ SV.agg [SV.int IntKind.i64 p.k, SV.lst (4 : Nat) p.f.n fun i => (tigF p z).el (i + (0 : Nat))] = (pOf (SV.agg [SV.int IntKind.i64 p.k, SV.lst (4 : Nat) p.f.n fun i => (tigF p z).el (i + (0 : Nat))])).sv ∧ (∀ (i : Nat), i < okN (pOf (SV.agg
 [SV.int IntKind.i64 p.k, SV.lst (4 : Nat) p.f.n fun i => (tigF p z).el (i + (0 : Nat))])) → True ∧ True ∧ True) ∧ (∀ (i : Nat), i < okN p → True ∧ True ∧ True) ∧ ((SV.lst (2 : Nat) (okN (pOf (SV.agg [SV.int IntKind.i64 p.k, SV.lst (4 : Nat) p.f.n fun i => (tigF p z).el (i + (0 : Nat))]))) fun k => SV.agg [i6 (tgE false (pOf (SV.agg [SV.int IntKind.i64 p.k, SV.lst (4 : Nat) p.f.n fun i => (tigF p z).el (i + (0 : Nat))])) k), i6 (tgE true (pOf (SV.agg [SV.int IntKind.i64 p.k, SV.lst (4 : Nat) p.f.n fun i => (tigF p z).el (i + (0 : Nat))])) k)]) = spN (okN (pOf (SV.agg [SV.int IntKind.i64 p.k, SV.lst (4 : Nat) p.f.n fun i => (tigF p z).el (i + (0 : Nat))]))) (fun i => cel (SV.agg [i6 (tgE false (pOf (SV.agg [SV.int IntKind.i64 p.k, SV.lst (4 : Nat) p.f.n fun i => (tigF p z).el (i + (0 : Nat))])) i), i6 (tgE true (pOf (SV.agg [SV.int IntKind.i64 p.k, SV.lst (4 : Nat) p.f.n fun i => (tigF p
 z).el (i + (0 : Nat))])) i)]) (0 : Nat)) fun i => cel (SV.agg [i6 (tgE false (pOf (SV.agg [SV.int IntKind.i64 p.k, SV.lst (4 : Nat) p.f.n fun i => (tigF p z).el (i + (0 : Nat))])) i), i6 (tgE true (pOf (SV.agg [SV.int IntKind.i64 p.k, SV.lst (4 : Nat) p.f.n fun i => (tigF p z).el (i + (0 : Nat))])) i)]) (1 : Nat)) ∧ ((SV.lst (2 : Nat) (okN p) fun k => SV.agg [i6 (tgE false p k), i6 (tgE true p k)]) = spN (okN p) (fun i => cel (SV.agg [i6 (tgE false p i), i6 (tgE true p i)]) (0 : Nat)) fun i => cel (SV.agg [i6 (tgE false p i), i6 (tgE true p i)]) (1 : Nat)) ∧ okN (pOf (SV.agg [SV.int IntKind.i64 p.k, SV.lst (4 : Nat) p.f.n fun i => (tigF p z).el (i + (0 : Nat))])) ≤ (100000 : Nat) ∧ ((okN (pOf (SV.agg [SV.int IntKind.i64 p.k, SV.lst (4 : Nat) p.f.n fun i => (tigF p z).el (i + (0 : Nat))])) = okN p ∧ ∀ (i : Nat), i < okN (pOf (SV.agg [SV.int IntKind.i64 p.k, SV.lst (4 : Nat) p.f.n fun i
 => (tigF p z).el (i + (0 : Nat))])) → tgE false (pOf (SV.agg [SV.int IntKind.i64 p.k, SV.lst (4 : Nat) p.f.n fun i => (tigF p z).el (i + (0 : Nat))])) i = tgE false p i ∧ tgE true (pOf (SV.agg [SV.int IntKind.i64 p.k, SV.lst (4 : Nat) p.f.n fun i => (tigF p z).el (i + (0 : Nat))])) i = tgE true p i) → (chE (pOf (SV.agg [SV.int IntKind.i64 p.k, SV.lst (4 : Nat) p.f.n fun i => (tigF p z).el (i + (0 : Nat))])) = (0 : Int) → rE true ∧ True) ∧ (¬chE (pOf (SV.agg [SV.int IntKind.i64 p.k, SV.lst (4 : Nat) p.f.n fun i => (tigF p z).el (i + (0 : Nat))])) = (0 : Int) → false = true ∧ True)) ∧ (¬(okN (pOf (SV.agg [SV.int IntKind.i64 p.k, SV.lst (4 : Nat) p.f.n fun i => (tigF p z).el (i + (0 : Nat))])) = okN p ∧ ∀ (i : Nat), i < okN (pOf (SV.agg [SV.int IntKind.i64 p.k, SV.lst (4 : Nat) p.f.n fun i => (tigF p z).el (i + (0 : Nat))])) → tgE false (pOf (SV.agg [SV.int IntKind.i64 p.k, SV.lst (4 :
 Nat) p.f.n fun i => (tigF p z).el (i + (0 : Nat))])) i = tgE false p i ∧ tgE true (pOf (SV.agg [SV.int IntKind.i64 p.k, SV.lst (4 : Nat) p.f.n fun i => (tigF p z).el (i + (0 : Nat))])) i = tgE true p i) → false = true ∧ True)))))))))))) ∧ ∀ (z : Nat), z = p.f.1 ∧ (true = false → z = (0 : Nat)) ∧ okP p → (0 : Nat) < (1 : Nat) ∧ (0 : Nat) + z ≤ z ∧ (∀ (i : Nat), i < z → rE (4 : Nat) ∧ True ∧ True ∧ True ∧ True ∧ True) ∧ SV.agg [SV.int IntKind.i64 p.k, SV.lst (4 : Nat) z fun i => (rt p a).f.el (i + (0 : Nat))] = (pOf (SV.agg [SV.int IntKind.i64 p.k, SV.lst (4 : Nat) z fun i => (rt p a).f.el (i + (0 : Nat))])).sv ∧ (0 : Nat) < (1 : Nat) ∧ (0 : Nat) + z ≤ z ∧ (∀ (i : Nat), i < z → rE (4 : Nat) ∧ True ∧ True ∧ True ∧ True ∧ True) ∧ SV.agg [SV.int IntKind.i64 p.k, SV.lst (4 : Nat) z fun i => (rt p a).f.el (i + (0 : Nat))] = (pOf (SV.agg [SV.int IntKind.i64 p.k, SV.lst (4 : Nat) z fun i => (rt
 p a).f.el (i + (0 : Nat))])).sv ∧ (0 : Nat) < (1 : Nat) ∧ (0 : Nat) + (z + (1 : Nat)) ≤ z + (1 : Nat) ∧ (∀ (i : Nat), i < z + (1 : Nat) → rE (4 : Nat) ∧ True ∧ True ∧ True ∧ True ∧ True) ∧ SV.agg [SV.int IntKind.i64 p.k, SV.lst (4 : Nat) (z + (1 : Nat)) fun i => (mo p a b).f.el (i + (0 : Nat))] = (pOf (SV.agg [SV.int IntKind.i64 p.k, SV.lst (4 : Nat) (z + (1 : Nat)) fun i => (mo p a b).f.el (i + (0 : Nat))])).sv ∧ (¬chE (pOf (SV.agg [SV.int IntKind.i64 p.k, SV.lst (4 : Nat) z fun i => (rt p a).f.el (i + (0 : Nat))])) = chE p → false = true ∧ True) ∧ (¬¬chE (pOf (SV.agg [SV.int IntKind.i64 p.k, SV.lst (4 : Nat) z fun i => (rt p a).f.el (i + (0 : Nat))])) = chE p → (¬wrE (pOf (SV.agg [SV.int IntKind.i64 p.k, SV.lst (4 : Nat) z fun i => (rt p a).f.el (i + (0 : Nat))])) = wrE p → false = true ∧ True) ∧ (¬¬wrE (pOf (SV.agg [SV.int IntKind.i64 p.k, SV.lst (4 : Nat) z fun i => (rt p a).f.el (i
 + (0 : Nat))])) = wrE p → (∀ (i : Nat), i < (wrL p).length → True) ∧ (∀ (i : Nat), i < (wrL (pOf (SV.agg [SV.int IntKind.i64 p.k, SV.lst (4 : Nat) z fun i => (rt p a).f.el (i + (0 : Nat))]))).length → True) ∧ ((SV.lst (1 : Nat) (wrL p).length fun k => i6 (↑((wrL p).getD k (0 : Nat)) : Int)) = liN (wrL p).length fun i => prI (i6 (↑((wrL p).getD i (0 : Nat)) : Int))) ∧ ((SV.lst (1 : Nat) (wrL (pOf (SV.agg [SV.int IntKind.i64 p.k, SV.lst (4 : Nat) z fun i => (rt p a).f.el (i + (0 : Nat))]))).length fun k => i6 (↑((wrL (pOf (SV.agg [SV.int IntKind.i64 p.k, SV.lst (4 : Nat) z fun i => (rt p a).f.el (i + (0 : Nat))]))).getD k (0 : Nat)) : Int)) = liN (wrL (pOf (SV.agg [SV.int IntKind.i64 p.k, SV.lst (4 : Nat) z fun i => (rt p a).f.el (i + (0 : Nat))]))).length fun i => prI (i6 (↑((wrL (pOf (SV.agg [SV.int IntKind.i64 p.k, SV.lst (4 : Nat) z fun i => (rt p a).f.el (i + (0 : Nat))]))).getD i (0
 : Nat)) : Int))) ∧ (wrL p).length ≤ (100000 : Nat) ∧ (¬((wrL p).length = (wrL (pOf (SV.agg [SV.int IntKind.i64 p.k, SV.lst (4 : Nat) z fun i => (rt p a).f.el (i + (0 : Nat))]))).length ∧ ∀ (i : Nat), i < (wrL p).length → (↑((wrL p).getD i (0 : Nat)) : Int) = (↑((wrL (pOf (SV.agg [SV.int IntKind.i64 p.k, SV.lst (4 : Nat) z fun i => (rt p a).f.el (i + (0 : Nat))]))).getD i (0 : Nat)) : Int)) → false = true ∧ True) ∧ (¬¬((wrL p).length = (wrL (pOf (SV.agg [SV.int IntKind.i64 p.k, SV.lst (4 : Nat) z fun i => (rt p a).f.el (i + (0 : Nat))]))).length ∧ ∀ (i : Nat), i < (wrL p).length → (↑((wrL p).getD i (0 : Nat)) : Int) = (↑((wrL (pOf (SV.agg [SV.int IntKind.i64 p.k, SV.lst (4 : Nat) z fun i => (rt p a).f.el (i + (0 : Nat))]))).getD i (0 : Nat)) : Int)) → (¬chE (pOf (SV.agg [SV.int IntKind.i64 p.k, SV.lst (4 : Nat) (z + (1 : Nat)) fun i => (mo p a b).f.el (i + (0 : Nat))])) = chE p → false =
 true ∧ True) ∧ (¬¬chE (pOf (SV.agg [SV.int IntKind.i64 p.k, SV.lst (4 : Nat) (z + (1 : Nat)) fun i => (mo p a b).f.el (i + (0 : Nat))])) = chE p → (¬chE p = (0 : Int) → (chE p = (6 : Int) → (wrE p = (0 : Int) → ((↑(okN p) : Int) = (0 : Int) → rE true ∧ True) ∧ (¬(↑(okN p) : Int) = (0 : Int) → false = true ∧ True)) ∧ (¬wrE p = (0 : Int) → false = true ∧ True)) ∧ (¬chE p = (6 : Int) → false = true ∧ True)) ∧ (¬¬chE p = (0 : Int) → (¬(↑(okN (pOf (SV.agg [SV.int IntKind.i64 p.k, SV.lst (4 : Nat) z fun i => (rt p a).f.el (i + (0 : Nat))]))) : Int) = (↑p.f.1 : Int) → false = true ∧ True) ∧ (¬¬(↑(okN (pOf (SV.agg [SV.int IntKind.i64 p.k, SV.lst (4 : Nat) z fun i => (rt p a).f.el (i + (0 : Nat))]))) : Int) = (↑p.f.1 : Int) → rI ((↑p.f.1 : Int) + (1 : Int)) ∧ (¬(↑(okN (pOf (SV.agg [SV.int IntKind.i64 p.k, SV.lst (4 : Nat) (z + (1 : Nat)) fun i => (mo p a b).f.el (i + (0 : Nat))]))) : Int) =
 (↑p.f.1 : Int) + (1 : Int) → false = true ∧ True) ∧ (¬¬(↑(okN (pOf (SV.agg [SV.int IntKind.i64 p.k, SV.lst (4 : Nat) (z + (1 : Nat)) fun i => (mo p a b).f.el (i + (0 : Nat))]))) : Int) = (↑p.f.1 : Int) + (1 : Int) → (¬(↑(okN p) : Int) = (↑p.f.1 : Int) → false = true ∧ True) ∧ (¬¬(↑(okN p) : Int) = (↑p.f.1 : Int) → (0 : Int) ≤ (↑p.f.1 : Int) ∧ (↑p.f.1 : Int) < (↑(okN (pOf (SV.agg [SV.int IntKind.i64 p.k, SV.lst (4 : Nat) (z + (1 : Nat)) fun i => (mo p a b).f.el (i + (0 : Nat))]))) : Int) ∧ (¬(tgE false (pOf (SV.agg [SV.int IntKind.i64 p.k, SV.lst (4 : Nat) (z + (1 : Nat)) fun i => (mo p a b).f.el (i + (0 : Nat))])) (↑p.f.1 : Int).toNat = (0 : Int) ∧ tgE true (pOf (SV.agg [SV.int IntKind.i64 p.k, SV.lst (4 : Nat) (z + (1 : Nat)) fun i => (mo p a b).f.el (i + (0 : Nat))])) (↑p.f.1 : Int).toNat = (0 : Int)) → false = true ∧ True) ∧ (¬¬(tgE false (pOf (SV.agg [SV.int IntKind.i64 p.k, SV.lst
 (4 : Nat) (z + (1 : Nat)) fun i => (mo p a b).f.el (i + (0 : Nat))])) (↑p.f.1 : Int).toNat = (0 : Int) ∧ tgE true (pOf (SV.agg [SV.int IntKind.i64 p.k, SV.lst (4 : Nat) (z + (1 : Nat)) fun i => (mo p a b).f.el (i + (0 : Nat))])) (↑p.f.1 : Int).toNat = (0 : Int)) → (0 : Nat) < (1 : Nat) ∧ (0 : Nat) < (1 : Nat) ∧ (∀ (i : Nat), i < p.f.1 → rE true) ∧ rE (0 : Nat) ∧ rE (0 : Nat) ∧ (∀ (i : Nat), rE true) ∧ ((0 : Nat) + p.f.1) * (32 : Nat) ≤ (140737488355328 : Nat) ∧ (0 : Nat) + p.f.1 ≤ (4611686018427387904 : Nat) ∧ (∃ z_1, (z_1 ≤ p.f.1 ∧ okP p ∧ ∀ (s : Nat), s < pwk p.1 → bad p.f s = false) ∧ a = a ∧ rE (0 : Nat) ∧ rE (0 : Nat) ∧ rE (okN p) ∧ (∀ (i : Nat), i < okN p → rE ((SV.agg [i6 (tgE false p i), i6 (tgE true p i)]).den) ∧ True ∧ True ∧ True) ∧ rE (↑p.f.1 : Int) ∧ okN (pOf (SV.agg [SV.int IntKind.i64 p.k, SV.lst (4 : Nat) z fun i => (rt p a).f.el (i + (0 : Nat))])) = p.f.1 ∧ (∀ (i :
 Nat), i < p.f.1 → (SV.agg [i6 (tgE false (pOf (SV.agg [SV.int IntKind.i64 p.k, SV.lst (4 : Nat) z fun i => (rt p a).f.el (i + (0 : Nat))])) i), i6 (tgE true (pOf (SV.agg [SV.int IntKind.i64 p.k, SV.lst (4 : Nat) z fun i => (rt p a).f.el (i + (0 : Nat))])) i)]).den = (SV.agg [i6 (tgE false p ((i + a.toNat) % p.f.n)), i6 (tgE true p ((i + a.toNat) % p.f.n))]).den ∧ True ∧ True ∧ True) ∧ okN (pOf (SV.agg [SV.int IntKind.i64 p.k, SV.lst (4 : Nat) (z + (1 : Nat)) fun i => (mo p a b).f.el (i + (0 : Nat))])) = okN (mo p a b) ∧ (∀ (i : Nat), i < okN (mo p a b) → (SV.agg [i6 (tgE false (pOf (SV.agg [SV.int IntKind.i64 p.k, SV.lst (4 : Nat) (z + (1 : Nat)) fun i => (mo p a b).f.el (i + (0 : Nat))])) i), i6 (tgE true (pOf (SV.agg [SV.int IntKind.i64 p.k, SV.lst (4 : Nat) (z + (1 : Nat)) fun i => (mo p a b).f.el (i + (0 : Nat))])) i)]).den = (SV.agg [i6 (tgE false (mo p a b) i), i6 (tgE true (mo p
 a b) i)]).den ∧ True ∧ True ∧ True) ∧ rE (0 : Nat) ∧ rE (0 : Nat) ∧ (0 : Int) = (↑z_1 : Int) ∧ p.1 = p.1 ∧ rE p.f.1 ∧ (∀ (i : Nat), i < p.f.1 → rE ((p.f.el i).den) ∧ True ∧ True ∧ True ∧ True ∧ True) ∧ p.1 = p.1 ∧ rE (0 : Nat) ∧ (0 : Nat) + p.f.1 = p.f.1 ∧ p.f.1 = (0 : Nat) + p.f.1 ∧ (∀ (i : Nat), i < p.f.1 → rE (4 : Nat) ∧ (if i < (0 : Nat) then (0 : Int) else p.f.2 (i - (0 : Nat))) = p.f.2 i ∧ (if i < (0 : Nat) then (0 : Int) else p.f.3 (i - (0 : Nat))) = p.f.3 i ∧ ((if i < (0 : Nat) then (0 : Int) else p.f.4 (i - (0 : Nat))) = if i < z_1 then tgE false p i else p.f.4 i) ∧ ((if i < (0 : Nat) then (0 : Int) else p.f.5 (i - (0 : Nat))) = if i < z_1 then tgE true p i else p.f.5 i) ∧ True) ∧ True) ∧ ∀ (z : Nat), (z ≤ p.f.1 ∧ okP p ∧ ∀ (s : Nat), s < pwk p.1 → bad p.f s = false) → ((↑z : Int) < (↑p.f.1 : Int) → (0 : Int) ≤ (↑z : Int) ∧ (↑z : Int) < (↑p.f.1 : Int) ∧ rI (a) ∧ rI ((↑z : Int)
 + a) ∧ ((↑p.f.1 : Int) = (0 : Int) → False) ∧ (0 : Int) ≤ ((↑z : Int) + a).tmod (↑p.f.1 : Int) ∧ ((↑z : Int) + a).tmod (↑p.f.1 : Int) < (↑(okN p) : Int) ∧ (¬(tgE false p (((↑z : Int).toNat + a.toNat) % p.f.1) = tgE false p (((↑z : Int) + a).tmod (↑p.f.1 : Int)).toNat ∧ tgE true p (((↑z : Int).toNat + a.toNat) % p.f.1) = tgE true p (((↑z : Int) + a).tmod (↑p.f.1 : Int)).toNat) → false = true ∧ True) ∧ (¬¬(tgE false p (((↑z : Int).toNat + a.toNat) % p.f.1) = tgE false p (((↑z : Int) + a).tmod (↑p.f.1 : Int)).toNat ∧ tgE true p (((↑z : Int).toNat + a.toNat) % p.f.1) = tgE true p (((↑z : Int) + a).tmod (↑p.f.1 : Int)).toNat) → (0 : Int) ≤ (↑z : Int) ∧ (↑z : Int) < (↑(okN (mo p a b)) : Int) ∧ (0 : Int) ≤ (↑z : Int) ∧ (↑z : Int) < (↑(okN p) : Int) ∧ (¬(tgE false (mo p a b) (↑z : Int).toNat = tgE false p (↑z : Int).toNat ∧ tgE true (mo p a b) (↑z : Int).toNat = tgE true p (↑z : Int).toNat) →
 false = true ∧ True) ∧ (¬¬(tgE false (mo p a b) (↑z : Int).toNat = tgE false p (↑z : Int).toNat ∧ tgE true (mo p a b) (↑z : Int).toNat = tgE true p (↑z : Int).toNat) → (0 : Nat) < (1 : Nat) ∧ (0 : Int) ≤ (↑z : Int) ∧ (↑z : Int) < (↑(okN p) : Int) ∧ (0 : Int) ≤ (↑z : Int) ∧ (↑z : Int) < (↑p.f.1 : Int) ∧ (2 : Nat) + (2 : Nat) ≤ (4 : Nat) ∧ (0 : Nat) + (↑z : Int).toNat < p.f.1 ∧ (∀ (i' : Nat), rE true) ∧ rI ((↑z : Int) + (1 : Int)) ∧ ∃ z_1, (z_1 ≤ p.f.1 ∧ okP p ∧ ∀ (s : Nat), s < pwk p.1 → bad p.f s = false) ∧ p.f.1 - z_1 < p.f.1 - z ∧ a = a ∧ rE (0 : Nat) ∧ rE (0 : Nat) ∧ rE (okN p) ∧ (∀ (i : Nat), i < okN p → rE ((SV.agg [i6 (tgE false p i), i6 (tgE true p i)]).den) ∧ True ∧ True ∧ True) ∧ rE (↑p.f.1 : Int) ∧ rE p.f.1 ∧ (∀ (i : Nat), i < p.f.1 → rE ((SV.agg [i6 (tgE false p ((i + a.toNat) % p.f.n)), i6 (tgE true p ((i + a.toNat) % p.f.n))]).den) ∧ True ∧ True ∧ True) ∧ rE (okN (mo p a
 b)) ∧ (∀ (i : Nat), i < okN (mo p a b) → rE ((SV.agg [i6 (tgE false (mo p a b) i), i6 (tgE true (mo p a b) i)]).den) ∧ True ∧ True ∧ True) ∧ rE (0 : Nat) ∧ rE (0 : Nat) ∧ (↑z : Int) + (1 : Int) = (↑z_1 : Int) ∧ p.1 = p.1 ∧ rE p.f.1 ∧ (∀ (i : Nat), i < p.f.1 → rE ((p.f.el i).den) ∧ True ∧ True ∧ True ∧ True ∧ True) ∧ p.1 = p.1 ∧ rE (0 : Nat) ∧ rE p.f.1 ∧ rE p.f.1 ∧ (∀ (i : Nat), i < p.f.1 → rE (4 : Nat) ∧ (if i = (0 : Nat) + (↑z : Int).toNat then p.f.2 i else p.f.2 i) = p.f.2 i ∧ (if i = (0 : Nat) + (↑z : Int).toNat then p.f.3 i else p.f.3 i) = p.f.3 i ∧ ((if i = (0 : Nat) + (↑z : Int).toNat then tgE false p (↑z : Int).toNat else if i < z then tgE false p i else p.f.4 i) = if i < z_1 then tgE false p i else p.f.4 i) ∧ ((if i = (0 : Nat) + (↑z : Int).toNat then tgE true p (↑z : Int).toNat else if i < z then tgE true p i else p.f.5 i) = if i < z_1 then tgE true p i else p.f.5 i) ∧ True) ∧
 True))) ∧ (¬(↑z : Int) < (↑p.f.1 : Int) → (0 : Nat) < (1 : Nat) ∧ (0 : Nat) + p.f.1 ≤ p.f.1 ∧ (∀ (i : Nat), i < p.f.1 → rE (4 : Nat) ∧ True ∧ True ∧ True ∧ True ∧ True) ∧ SV.agg [SV.int IntKind.i64 p.k, SV.lst (4 : Nat) p.f.n fun i => (tigF p z).el (i + (0 : Nat))] = (pOf (SV.agg [SV.int IntKind.i64 p.k, SV.lst (4 : Nat) p.f.n fun i => (tigF p z).el (i + (0 : Nat))])).sv ∧ (∀ (i : Nat), i < okN (pOf (SV.agg [SV.int IntKind.i64 p.k, SV.lst (4 : Nat) p.f.n fun i => (tigF p z).el (i + (0 : Nat))])) → True ∧ True ∧ True) ∧ (∀ (i : Nat), i < okN p → True ∧ True ∧ True) ∧ ((SV.lst (2 : Nat) (okN (pOf (SV.agg [SV.int IntKind.i64 p.k, SV.lst (4 : Nat) p.f.n fun i => (tigF p z).el (i + (0 : Nat))]))) fun k => SV.agg [i6 (tgE false (pOf (SV.agg [SV.int IntKind.i64 p.k, SV.lst (4 : Nat) p.f.n fun i => (tigF p z).el (i + (0 : Nat))])) k), i6 (tgE true (pOf (SV.agg [SV.int IntKind.i64 p.k, SV.lst (4
 : Nat) p.f.n fun i => (tigF p z).el (i + (0 : Nat))])) k)]) = spN (okN (pOf (SV.agg [SV.int IntKind.i64 p.k, SV.lst (4 : Nat) p.f.n fun i => (tigF p z).el (i + (0 : Nat))]))) (fun i => cel (SV.agg [i6 (tgE false (pOf (SV.agg [SV.int IntKind.i64 p.k, SV.lst (4 : Nat) p.f.n fun i => (tigF p z).el (i + (0 : Nat))])) i), i6 (tgE true (pOf (SV.agg [SV.int IntKind.i64 p.k, SV.lst (4 : Nat) p.f.n fun i => (tigF p z).el (i + (0 : Nat))])) i)]) (0 : Nat)) fun i => cel (SV.agg [i6 (tgE false (pOf (SV.agg [SV.int IntKind.i64 p.k, SV.lst (4 : Nat) p.f.n fun i => (tigF p z).el (i + (0 : Nat))])) i), i6 (tgE true (pOf (SV.agg [SV.int IntKind.i64 p.k, SV.lst (4 : Nat) p.f.n fun i => (tigF p z).el (i + (0 : Nat))])) i)]) (1 : Nat)) ∧ ((SV.lst (2 : Nat) (okN p) fun k => SV.agg [i6 (tgE false p k), i6 (tgE true p k)]) = spN (okN p) (fun i => cel (SV.agg [i6 (tgE false p i), i6 (tgE true p i)]) (0 : Nat))
 fun i => cel (SV.agg [i6 (tgE false p i), i6 (tgE true p i)]) (1 : Nat)) ∧ okN (pOf (SV.agg [SV.int IntKind.i64 p.k, SV.lst (4 : Nat) p.f.n fun i => (tigF p z).el (i + (0 : Nat))])) ≤ (100000 : Nat) ∧ ((okN (pOf (SV.agg [SV.int IntKind.i64 p.k, SV.lst (4 : Nat) p.f.n fun i => (tigF p z).el (i + (0 : Nat))])) = okN p ∧ ∀ (i : Nat), i < okN (pOf (SV.agg [SV.int IntKind.i64 p.k, SV.lst (4 : Nat) p.f.n fun i => (tigF p z).el (i + (0 : Nat))])) → tgE false (pOf (SV.agg [SV.int IntKind.i64 p.k, SV.lst (4 : Nat) p.f.n fun i => (tigF p z).el (i + (0 : Nat))])) i = tgE false p i ∧ tgE true (pOf (SV.agg [SV.int IntKind.i64 p.k, SV.lst (4 : Nat) p.f.n fun i => (tigF p z).el (i + (0 : Nat))])) i = tgE true p i) → (chE (pOf (SV.agg [SV.int IntKind.i64 p.k, SV.lst (4 : Nat) p.f.n fun i => (tigF p z).el (i + (0 : Nat))])) = (0 : Int) → rE true ∧ True) ∧ (¬chE (pOf (SV.agg [SV.int IntKind.i64 p.k,
 SV.lst (4 : Nat) p.f.n fun i => (tigF p z).el (i + (0 : Nat))])) = (0 : Int) → false = true ∧ True)) ∧ (¬(okN (pOf (SV.agg [SV.int IntKind.i64 p.k, SV.lst (4 : Nat) p.f.n fun i => (tigF p z).el (i + (0 : Nat))])) = okN p ∧ ∀ (i : Nat), i < okN (pOf (SV.agg [SV.int IntKind.i64 p.k, SV.lst (4 : Nat) p.f.n fun i => (tigF p z).el (i + (0 : Nat))])) → tgE false (pOf (SV.agg [SV.int IntKind.i64 p.k, SV.lst (4 : Nat) p.f.n fun i => (tigF p z).el (i + (0 : Nat))])) i = tgE false p i ∧ tgE true (pOf (SV.agg [SV.int IntKind.i64 p.k, SV.lst (4 : Nat) p.f.n fun i => (tigF p z).el (i + (0 : Nat))])) i = tgE true p i) → false = true ∧ True))))))))))))) ∧ ∀ (z : Nat), z ≤ p.f.1 ∧ (true = false → z = (0 : Nat)) ∧ okP p → ((↑z : Int) < (↑p.f.1 : Int) → (0 : Nat) < (1 : Nat) ∧ (0 : Nat) < (1 : Nat) ∧ rI (a) ∧ rI ((↑z : Int) + a) ∧ ((↑p.f.1 : Int) = (0 : Int) → False) ∧ (0 : Int) ≤ ((↑z : Int) + a).tmod
 (↑p.f.1 : Int) ∧ ((↑z : Int) + a).tmod (↑p.f.1 : Int) < (↑p.f.1 : Int) ∧ True ∧ (∀ (i : Nat), i < (1 : Nat) → rE true) ∧ rE (0 : Nat) ∧ z = z ∧ (∀ (i : Nat), rE true) ∧ (z + (1 : Nat)) * (32 : Nat) ≤ (140737488355328 : Nat) ∧ z + (1 : Nat) ≤ (4611686018427387904 : Nat) ∧ rI ((↑z : Int) + (1 : Int)) ∧ ∃ z_1, (z_1 ≤ p.f.1 ∧ (true = false → z_1 = (0 : Nat)) ∧ okP p) ∧ p.f.1 - z_1 < p.f.1 - z ∧ a = a ∧ b = b ∧ rE (0 : Nat) ∧ rE (0 : Nat) ∧ rE (okN p) ∧ (∀ (i : Nat), i < okN p → rE ((SV.agg [i6 (tgE false p i), i6 (tgE true p i)]).den) ∧ True ∧ True ∧ True) ∧ rE (chE p) ∧ rE ((wrL p).length) ∧ (∀ (i : Nat), i < (wrL p).length → rE ((i6 (↑((wrL p).getD i (0 : Nat)) : Int)).den) ∧ True) ∧ rE (wrE p) ∧ rE (↑p.f.1 : Int) ∧ rE (0 : Nat) ∧ rE (0 : Nat) ∧ rE (0 : Nat) ∧ rE (0 : Nat) ∧ (↑z : Int) + (1 : Int) = (↑z_1 : Int) ∧ p.1 = p.1 ∧ rE p.f.1 ∧ (∀ (i : Nat), i < p.f.1 → rE ((p.f.el i).den) ∧ True
 ∧ True ∧ True ∧ True ∧ True) ∧ p.1 = p.1 ∧ rE (0 : Nat) ∧ z + (1 : Nat) = z_1 ∧ p.1 = p.1 ∧ rE p.f.1 ∧ (∀ (i : Nat), i < p.f.1 → rE ((p.f.el i).den) ∧ True ∧ True ∧ True ∧ True ∧ True) ∧ z_1 = z + (1 : Nat) ∧ (∀ (i : Nat), i < z_1 → rE (4 : Nat) ∧ (if i < z then p.f.2 ((i + a.toNat) % p.f.n) else p.f.2 (((↑z : Int) + a).tmod (↑p.f.n : Int)).toNat) = p.f.2 ((i + a.toNat) % p.f.n) ∧ (if i < z then p.f.3 ((i + a.toNat) % p.f.n) else p.f.3 (((↑z : Int) + a).tmod (↑p.f.n : Int)).toNat) = p.f.3 ((i + a.toNat) % p.f.n) ∧ (if i < z then p.f.4 ((i + a.toNat) % p.f.n) else p.f.4 (((↑z : Int) + a).tmod (↑p.f.n : Int)).toNat) = p.f.4 ((i + a.toNat) % p.f.n) ∧ (if i < z then p.f.5 ((i + a.toNat) % p.f.n) else p.f.5 (((↑z : Int) + a).tmod (↑p.f.n : Int)).toNat) = p.f.5 ((i + a.toNat) % p.f.n) ∧ True) ∧ True) ∧ (¬(↑z : Int) < (↑p.f.1 : Int) → rI (b) ∧ (0 : Nat) < (1 : Nat) ∧ (p.1 = (0 : Int) → False)
 ∧ (True ∧ True ∧ True ∧ True ∧ (0 : Nat) < (1 : Nat) ∧ True ∧ True ∧ True ∧ True ∧ True ∧ True ∧ rI (b.tmod p.1 + (1 : Int)) ∧ True ∧ True ∧ True ∧ True ∧ rI (a) ∧ True ∧ True ∧ True ∧ True ∧ (0 : Nat) < (1 : Nat) ∧ True ∧ True ∧ rI (p.1 - (1 : Int)) ∧ True ∧ True ∧ (p.1 - (1 : Int) = (0 : Int) → False) ∧ True ∧ True ∧ rI (b.tmod p.1 + (1 : Int) + a.tmod (p.1 - (1 : Int))) ∧ True ∧ True ∧ True ∧ True ∧ (0 : Nat) < (1 : Nat) ∧ True ∧ True ∧ (p.1 = (0 : Int) → False) ∧ True ∧ True ∧ True ∧ True ∧ True ∧ (True ∧ True ∧ True ∧ True ∧ (∀ (i : Nat), i < p.f.1 → rE true) ∧ rE (0 : Nat) ∧ rE (0 : Nat) ∧ (∀ (i : Nat), rE true) ∧ ((0 : Nat) + p.f.1) * (32 : Nat) ≤ (140737488355328 : Nat) ∧ (0 : Nat) + p.f.1 ≤ (4611686018427387904 : Nat) ∧ True ∧ True ∧ (∀ (i : Nat), i < (1 : Nat) → rE true) ∧ rE (0 : Nat) ∧ rE ((0 : Nat) + p.f.1) ∧ (∀ (i : Nat), rE true) ∧ ((0 : Nat) + p.f.1 + (1 : Nat)) * (32 :
 Nat) ≤ (140737488355328 : Nat) ∧ (0 : Nat) + p.f.1 + (1 : Nat) ≤ (4611686018427387904 : Nat) ∧ True ∧ True ∧ True ∧ True ∧ ∃ z_1, (z_1 = p.f.1 ∧ (true = false → z_1 = (0 : Nat)) ∧ okP p) ∧ a = a ∧ b = b ∧ rE (0 : Nat) ∧ rE (0 : Nat) ∧ rE (okN p) ∧ (∀ (i : Nat), i < okN p → rE ((SV.agg [i6 (tgE false p i), i6 (tgE true p i)]).den) ∧ True ∧ True ∧ True) ∧ rE (chE p) ∧ rE ((wrL p).length) ∧ (∀ (i : Nat), i < (wrL p).length → rE ((i6 (↑((wrL p).getD i (0 : Nat)) : Int)).den) ∧ True) ∧ rE (wrE p) ∧ rE (↑p.f.1 : Int) ∧ rE (0 : Nat) ∧ rE (0 : Nat) ∧ rE (0 : Nat) ∧ rE (0 : Nat) ∧ p.1 = p.1 ∧ rE p.f.1 ∧ (∀ (i : Nat), i < p.f.1 → rE ((p.f.el i).den) ∧ True ∧ True ∧ True ∧ True ∧ True) ∧ p.1 = p.1 ∧ rE (0 : Nat) ∧ z = z_1 ∧ p.1 = p.1 ∧ rE (0 : Nat) ∧ (0 : Nat) + p.f.1 + (1 : Nat) = z_1 + (1 : Nat) ∧ z_1 = z ∧ (∀ (i : Nat), i < z_1 → rE (4 : Nat) ∧ rE (p.f.2 ((i + a.toNat) % p.f.n)) ∧ rE (p.f.3 ((i
 + a.toNat) % p.f.n)) ∧ rE (p.f.4 ((i + a.toNat) % p.f.n)) ∧ rE (p.f.5 ((i + a.toNat) % p.f.n)) ∧ True) ∧ z_1 + (1 : Nat) = (0 : Nat) + p.f.1 + (1 : Nat) ∧ (∀ (i : Nat), i < z_1 + (1 : Nat) → rE (4 : Nat) ∧ ((if i < (0 : Nat) + p.f.1 then if i < (0 : Nat) then (0 : Int) else p.f.2 (i - (0 : Nat)) else b.tmod p.1) = if i < p.f.1 then p.f.2 i else fa p b) ∧ ((if i < (0 : Nat) + p.f.1 then if i < (0 : Nat) then (0 : Int) else p.f.3 (i - (0 : Nat)) else (b.tmod p.1 + (1 : Int) + a.tmod (p.1 - (1 : Int))).tmod p.1) = if i < p.f.1 then p.f.3 i else ta p a b) ∧ ((if i < (0 : Nat) + p.f.1 then if i < (0 : Nat) then (0 : Int) else p.f.4 (i - (0 : Nat)) else (0 : Int)) = if i < p.f.1 then p.f.4 i else (0 : Int)) ∧ ((if i < (0 : Nat) + p.f.1 then if i < (0 : Nat) then (0 : Int) else p.f.5 (i - (0 : Nat)) else (0 : Int)) = if i < p.f.1 then p.f.5 i else (0 : Int)) ∧ True) ∧ True) ∧ True) ∧ (∀ (z :
 Nat), z = p.f.1 ∧ (rE false → z = (0 : Nat)) ∧ okP p → (0 : Nat) < (1 : Nat) ∧ (0 : Nat) < (1 : Nat) ∧ (0 : Nat) < (1 : Nat) ∧ (0 : Nat) + (z + (1 : Nat)) ≤ z + (1 : Nat) ∧ (∀ (i : Nat), i < z + (1 : Nat) → rE (4 : Nat) ∧ True ∧ True ∧ True ∧ True ∧ True) ∧ SV.agg [SV.int IntKind.i64 p.k, SV.lst (4 : Nat) (z + (1 : Nat)) fun i => (mo p a b).f.el (i + (0 : Nat))] = (pOf (SV.agg [SV.int IntKind.i64 p.k, SV.lst (4 : Nat) (z + (1 : Nat)) fun i => (mo p a b).f.el (i + (0 : Nat))])).sv ∧ (¬chE (nilP p.k) = chE p → false = true ∧ True) ∧ (¬¬chE (nilP p.k) = chE p → (¬wrE (nilP p.k) = wrE p → false = true ∧ True) ∧ (¬¬wrE (nilP p.k) = wrE p → (∀ (i : Nat), i < (wrL p).length → True) ∧ (∀ (i : Nat), i < (wrL (nilP p.k)).length → True) ∧ ((SV.lst (1 : Nat) (wrL p).length fun k => i6 (↑((wrL p).getD k (0 : Nat)) : Int)) = liN (wrL p).length fun i => prI (i6 (↑((wrL p).getD i (0 : Nat)) : Int))) ∧
 ((SV.lst (1 : Nat) (wrL (nilP p.k)).length fun k => i6 (↑((wrL (nilP p.k)).getD k (0 : Nat)) : Int)) = liN (wrL (nilP p.k)).length fun i => prI (i6 (↑((wrL (nilP p.k)).getD i (0 : Nat)) : Int))) ∧ (wrL p).length ≤ (100000 : Nat) ∧ (¬((wrL p).length = (wrL (nilP p.k)).length ∧ ∀ (i : Nat), i < (wrL p).length → (↑((wrL p).getD i (0 : Nat)) : Int) = (↑((wrL (nilP p.k)).getD i (0 : Nat)) : Int)) → false = true ∧ True) ∧ (¬¬((wrL p).length = (wrL (nilP p.k)).length ∧ ∀ (i : Nat), i < (wrL p).length → (↑((wrL p).getD i (0 : Nat)) : Int) = (↑((wrL (nilP p.k)).getD i (0 : Nat)) : Int)) → (¬chE (pOf (SV.agg [SV.int IntKind.i64 p.k, SV.lst (4 : Nat) (z + (1 : Nat)) fun i => (mo p a b).f.el (i + (0 : Nat))])) = chE p → false = true ∧ True) ∧ (¬¬chE (pOf (SV.agg [SV.int IntKind.i64 p.k, SV.lst (4 : Nat) (z + (1 : Nat)) fun i => (mo p a b).f.el (i + (0 : Nat))])) = chE p → (¬chE p = (0 : Int) → (chE
 p = (6 : Int) → (wrE p = (0 : Int) → ((↑(okN p) : Int) = (0 : Int) → rE true ∧ True) ∧ (¬(↑(okN p) : Int) = (0 : Int) → false = true ∧ True)) ∧ (¬wrE p = (0 : Int) → false = true ∧ True)) ∧ (¬chE p = (6 : Int) → false = true ∧ True)) ∧ (¬¬chE p = (0 : Int) → (¬(↑(okN (nilP p.k)) : Int) = (↑p.f.1 : Int) → false = true ∧ True) ∧ (¬¬(↑(okN (nilP p.k)) : Int) = (↑p.f.1 : Int) → rI ((↑p.f.1 : Int) + (1 : Int)) ∧ (¬(↑(okN (pOf (SV.agg [SV.int IntKind.i64 p.k, SV.lst (4 : Nat) (z + (1 : Nat)) fun i => (mo p a b).f.el (i + (0 : Nat))]))) : Int) = (↑p.f.1 : Int) + (1 : Int) → false = true ∧ True) ∧ (¬¬(↑(okN (pOf (SV.agg [SV.int IntKind.i64 p.k, SV.lst (4 : Nat) (z + (1 : Nat)) fun i => (mo p a b).f.el (i + (0 : Nat))]))) : Int) = (↑p.f.1 : Int) + (1 : Int) → (¬(↑(okN p) : Int) = (↑p.f.1 : Int) → false = true ∧ True) ∧ (¬¬(↑(okN p) : Int) = (↑p.f.1 : Int) → (0 : Int) ≤ (↑p.f.1 : Int) ∧ (↑p.f.1 :
 Int) < (↑(okN (pOf (SV.agg [SV.int IntKind.i64 p.k, SV.lst (4 : Nat) (z + (1 : Nat)) fun i => (mo p a b).f.el (i + (0 : Nat))]))) : Int) ∧ (¬(tgE false (pOf (SV.agg [SV.int IntKind.i64 p.k, SV.lst (4 : Nat) (z + (1 : Nat)) fun i => (mo p a b).f.el (i + (0 : Nat))])) (↑p.f.1 : Int).toNat = (0 : Int) ∧ tgE true (pOf (SV.agg [SV.int IntKind.i64 p.k, SV.lst (4 : Nat) (z + (1 : Nat)) fun i => (mo p a b).f.el (i + (0 : Nat))])) (↑p.f.1 : Int).toNat = (0 : Int)) → false = true ∧ True) ∧ (¬¬(tgE false (pOf (SV.agg [SV.int IntKind.i64 p.k, SV.lst (4 : Nat) (z + (1 : Nat)) fun i => (mo p a b).f.el (i + (0 : Nat))])) (↑p.f.1 : Int).toNat = (0 : Int) ∧ tgE true (pOf (SV.agg [SV.int IntKind.i64 p.k, SV.lst (4 : Nat) (z + (1 : Nat)) fun i => (mo p a b).f.el (i + (0 : Nat))])) (↑p.f.1 : Int).toNat = (0 : Int)) → (0 : Nat) < (1 : Nat) ∧ (0 : Nat) < (1 : Nat) ∧ (∀ (i : Nat), i < p.f.1 → rE true) ∧ rE (0
 : Nat) ∧ rE (0 : Nat) ∧ (∀ (i : Nat), rE true) ∧ ((0 : Nat) + p.f.1) * (32 : Nat) ≤ (140737488355328 : Nat) ∧ (0 : Nat) + p.f.1 ≤ (4611686018427387904 : Nat) ∧ (∃ z_1, (z_1 ≤ p.f.1 ∧ okP p ∧ ∀ (s : Nat), s < pwk p.1 → bad p.f s = false) ∧ a = a ∧ rE (0 : Nat) ∧ rE (0 : Nat) ∧ rE (okN p) ∧ (∀ (i : Nat), i < okN p → rE ((SV.agg [i6 (tgE false p i), i6 (tgE true p i)]).den) ∧ True ∧ True ∧ True) ∧ rE (↑p.f.1 : Int) ∧ okN (nilP p.k) = p.f.1 ∧ (∀ (i : Nat), i < p.f.1 → (SV.agg [i6 (tgE false (nilP p.k) i), i6 (tgE true (nilP p.k) i)]).den = (SV.agg [i6 (tgE false p ((i + a.toNat) % p.f.n)), i6 (tgE true p ((i + a.toNat) % p.f.n))]).den ∧ True ∧ True ∧ True) ∧ okN (pOf (SV.agg [SV.int IntKind.i64 p.k, SV.lst (4 : Nat) (z + (1 : Nat)) fun i => (mo p a b).f.el (i + (0 : Nat))])) = okN (mo p a b) ∧ (∀ (i : Nat), i < okN (mo p a b) → (SV.agg [i6 (tgE false (pOf (SV.agg [SV.int IntKind.i64 p.k,
 SV.lst (4 : Nat) (z + (1 : Nat)) fun i => (mo p a b).f.el (i + (0 : Nat))])) i), i6 (tgE true (pOf (SV.agg [SV.int IntKind.i64 p.k, SV.lst (4 : Nat) (z + (1 : Nat)) fun i => (mo p a b).f.el (i + (0 : Nat))])) i)]).den = (SV.agg [i6 (tgE false (mo p a b) i), i6 (tgE true (mo p a b) i)]).den ∧ True ∧ True ∧ True) ∧ rE (0 : Nat) ∧ rE (0 : Nat) ∧ (0 : Int) = (↑z_1 : Int) ∧ p.1 = p.1 ∧ rE p.f.1 ∧ (∀ (i : Nat), i < p.f.1 → rE ((p.f.el i).den) ∧ True ∧ True ∧ True ∧ True ∧ True) ∧ p.1 = p.1 ∧ rE (0 : Nat) ∧ (0 : Nat) + p.f.1 = p.f.1 ∧ p.f.1 = (0 : Nat) + p.f.1 ∧ (∀ (i : Nat), i < p.f.1 → rE (4 : Nat) ∧ (if i < (0 : Nat) then (0 : Int) else p.f.2 (i - (0 : Nat))) = p.f.2 i ∧ (if i < (0 : Nat) then (0 : Int) else p.f.3 (i - (0 : Nat))) = p.f.3 i ∧ ((if i < (0 : Nat) then (0 : Int) else p.f.4 (i - (0 : Nat))) = if i < z_1 then tgE false p i else p.f.4 i) ∧ ((if i < (0 : Nat) then (0 : Int) else
 p.f.5 (i - (0 : Nat))) = if i < z_1 then tgE true p i else p.f.5 i) ∧ True) ∧ True) ∧ ∀ (z : Nat), (z ≤ p.f.1 ∧ okP p ∧ ∀ (s : Nat), s < pwk p.1 → bad p.f s = false) → ((↑z : Int) < (↑p.f.1 : Int) → (0 : Int) ≤ (↑z : Int) ∧ (↑z : Int) < (↑p.f.1 : Int) ∧ rI (a) ∧ rI ((↑z : Int) + a) ∧ ((↑p.f.1 : Int) = (0 : Int) → False) ∧ (0 : Int) ≤ ((↑z : Int) + a).tmod (↑p.f.1 : Int) ∧ ((↑z : Int) + a).tmod (↑p.f.1 : Int) < (↑(okN p) : Int) ∧ (¬(tgE false p (((↑z : Int).toNat + a.toNat) % p.f.1) = tgE false p (((↑z : Int) + a).tmod (↑p.f.1 : Int)).toNat ∧ tgE true p (((↑z : Int).toNat + a.toNat) % p.f.1) = tgE true p (((↑z : Int) + a).tmod (↑p.f.1 : Int)).toNat) → false = true ∧ True) ∧ (¬¬(tgE false p (((↑z : Int).toNat + a.toNat) % p.f.1) = tgE false p (((↑z : Int) + a).tmod (↑p.f.1 : Int)).toNat ∧ tgE true p (((↑z : Int).toNat + a.toNat) % p.f.1) = tgE true p (((↑z : Int) + a).tmod (↑p.f.1 :
 Int)).toNat) → (0 : Int) ≤ (↑z : Int) ∧ (↑z : Int) < (↑(okN (mo p a b)) : Int) ∧ (0 : Int) ≤ (↑z : Int) ∧ (↑z : Int) < (↑(okN p) : Int) ∧ (¬(tgE false (mo p a b) (↑z : Int).toNat = tgE false p (↑z : Int).toNat ∧ tgE true (mo p a b) (↑z : Int).toNat = tgE true p (↑z : Int).toNat) → false = true ∧ True) ∧ (¬¬(tgE false (mo p a b) (↑z : Int).toNat = tgE false p (↑z : Int).toNat ∧ tgE true (mo p a b) (↑z : Int).toNat = tgE true p (↑z : Int).toNat) → (0 : Nat) < (1 : Nat) ∧ (0 : Int) ≤ (↑z : Int) ∧ (↑z : Int) < (↑(okN p) : Int) ∧ (0 : Int) ≤ (↑z : Int) ∧ (↑z : Int) < (↑p.f.1 : Int) ∧ (2 : Nat) + (2 : Nat) ≤ (4 : Nat) ∧ (0 : Nat) + (↑z : Int).toNat < p.f.1 ∧ (∀ (i' : Nat), rE true) ∧ rI ((↑z : Int) + (1 : Int)) ∧ ∃ z_1, (z_1 ≤ p.f.1 ∧ okP p ∧ ∀ (s : Nat), s < pwk p.1 → bad p.f s = false) ∧ p.f.1 - z_1 < p.f.1 - z ∧ a = a ∧ rE (0 : Nat) ∧ rE (0 : Nat) ∧ rE (okN p) ∧ (∀ (i : Nat), i < okN p →
 rE ((SV.agg [i6 (tgE false p i), i6 (tgE true p i)]).den) ∧ True ∧ True ∧ True) ∧ rE (↑p.f.1 : Int) ∧ rE p.f.1 ∧ (∀ (i : Nat), i < p.f.1 → rE ((SV.agg [i6 (tgE false p ((i + a.toNat) % p.f.n)), i6 (tgE true p ((i + a.toNat) % p.f.n))]).den) ∧ True ∧ True ∧ True) ∧ rE (okN (mo p a b)) ∧ (∀ (i : Nat), i < okN (mo p a b) → rE ((SV.agg [i6 (tgE false (mo p a b) i), i6 (tgE true (mo p a b) i)]).den) ∧ True ∧ True ∧ True) ∧ rE (0 : Nat) ∧ rE (0 : Nat) ∧ (↑z : Int) + (1 : Int) = (↑z_1 : Int) ∧ p.1 = p.1 ∧ rE p.f.1 ∧ (∀ (i : Nat), i < p.f.1 → rE ((p.f.el i).den) ∧ True ∧ True ∧ True ∧ True ∧ True) ∧ p.1 = p.1 ∧ rE (0 : Nat) ∧ rE p.f.1 ∧ rE p.f.1 ∧ (∀ (i : Nat), i < p.f.1 → rE (4 : Nat) ∧ (if i = (0 : Nat) + (↑z : Int).toNat then p.f.2 i else p.f.2 i) = p.f.2 i ∧ (if i = (0 : Nat) + (↑z : Int).toNat then p.f.3 i else p.f.3 i) = p.f.3 i ∧ ((if i = (0 : Nat) + (↑z : Int).toNat then tgE false p (↑z
 : Int).toNat else if i < z then tgE false p i else p.f.4 i) = if i < z_1 then tgE false p i else p.f.4 i) ∧ ((if i = (0 : Nat) + (↑z : Int).toNat then tgE true p (↑z : Int).toNat else if i < z then tgE true p i else p.f.5 i) = if i < z_1 then tgE true p i else p.f.5 i) ∧ True) ∧ True))) ∧ (¬(↑z : Int) < (↑p.f.1 : Int) → (0 : Nat) < (1 : Nat) ∧ (0 : Nat) + p.f.1 ≤ p.f.1 ∧ (∀ (i : Nat), i < p.f.1 → rE (4 : Nat) ∧ True ∧ True ∧ True ∧ True ∧ True) ∧ SV.agg [SV.int IntKind.i64 p.k, SV.lst (4 : Nat) p.f.n fun i => (tigF p z).el (i + (0 : Nat))] = (pOf (SV.agg [SV.int IntKind.i64 p.k, SV.lst (4 : Nat) p.f.n fun i => (tigF p z).el (i + (0 : Nat))])).sv ∧ (∀ (i : Nat), i < okN (pOf (SV.agg [SV.int IntKind.i64 p.k, SV.lst (4 : Nat) p.f.n fun i => (tigF p z).el (i + (0 : Nat))])) → True ∧ True ∧ True) ∧ (∀ (i : Nat), i < okN p → True ∧ True ∧ True) ∧ ((SV.lst (2 : Nat) (okN (pOf (SV.agg [SV.int
 IntKind.i64 p.k, SV.lst (4 : Nat) p.f.n fun i => (tigF p z).el (i + (0 : Nat))]))) fun k => SV.agg [i6 (tgE false (pOf (SV.agg [SV.int IntKind.i64 p.k, SV.lst (4 : Nat) p.f.n fun i => (tigF p z).el (i + (0 : Nat))])) k), i6 (tgE true (pOf (SV.agg [SV.int IntKind.i64 p.k, SV.lst (4 : Nat) p.f.n fun i => (tigF p z).el (i + (0 : Nat))])) k)]) = spN (okN (pOf (SV.agg [SV.int IntKind.i64 p.k, SV.lst (4 : Nat) p.f.n fun i => (tigF p z).el (i + (0 : Nat))]))) (fun i => cel (SV.agg [i6 (tgE false (pOf (SV.agg [SV.int IntKind.i64 p.k, SV.lst (4 : Nat) p.f.n fun i => (tigF p z).el (i + (0 : Nat))])) i), i6 (tgE true (pOf (SV.agg [SV.int IntKind.i64 p.k, SV.lst (4 : Nat) p.f.n fun i => (tigF p z).el (i + (0 : Nat))])) i)]) (0 : Nat)) fun i => cel (SV.agg [i6 (tgE false (pOf (SV.agg [SV.int IntKind.i64 p.k, SV.lst (4 : Nat) p.f.n fun i => (tigF p z).el (i + (0 : Nat))])) i), i6 (tgE true (pOf
 (SV.agg [SV.int IntKind.i64 p.k, SV.lst (4 : Nat) p.f.n fun i => (tigF p z).el (i + (0 : Nat))])) i)]) (1 : Nat)) ∧ ((SV.lst (2 : Nat) (okN p) fun k => SV.agg [i6 (tgE false p k), i6 (tgE true p k)]) = spN (okN p) (fun i => cel (SV.agg [i6 (tgE false p i), i6 (tgE true p i)]) (0 : Nat)) fun i => cel (SV.agg [i6 (tgE false p i), i6 (tgE true p i)]) (1 : Nat)) ∧ okN (pOf (SV.agg [SV.int IntKind.i64 p.k, SV.lst (4 : Nat) p.f.n fun i => (tigF p z).el (i + (0 : Nat))])) ≤ (100000 : Nat) ∧ ((okN (pOf (SV.agg [SV.int IntKind.i64 p.k, SV.lst (4 : Nat) p.f.n fun i => (tigF p z).el (i + (0 : Nat))])) = okN p ∧ ∀ (i : Nat), i < okN (pOf (SV.agg [SV.int IntKind.i64 p.k, SV.lst (4 : Nat) p.f.n fun i => (tigF p z).el (i + (0 : Nat))])) → tgE false (pOf (SV.agg [SV.int IntKind.i64 p.k, SV.lst (4 : Nat) p.f.n fun i => (tigF p z).el (i + (0 : Nat))])) i = tgE false p i ∧ tgE true (pOf (SV.agg [SV.int
 IntKind.i64 p.k, SV.lst (4 : Nat) p.f.n fun i => (tigF p z).el (i + (0 : Nat))])) i = tgE true p i) → (chE (pOf (SV.agg [SV.int IntKind.i64 p.k, SV.lst (4 : Nat) p.f.n fun i => (tigF p z).el (i + (0 : Nat))])) = (0 : Int) → rE true ∧ True) ∧ (¬chE (pOf (SV.agg [SV.int IntKind.i64 p.k, SV.lst (4 : Nat) p.f.n fun i => (tigF p z).el (i + (0 : Nat))])) = (0 : Int) → false = true ∧ True)) ∧ (¬(okN (pOf (SV.agg [SV.int IntKind.i64 p.k, SV.lst (4 : Nat) p.f.n fun i => (tigF p z).el (i + (0 : Nat))])) = okN p ∧ ∀ (i : Nat), i < okN (pOf (SV.agg [SV.int IntKind.i64 p.k, SV.lst (4 : Nat) p.f.n fun i => (tigF p z).el (i + (0 : Nat))])) → tgE false (pOf (SV.agg [SV.int IntKind.i64 p.k, SV.lst (4 : Nat) p.f.n fun i => (tigF p z).el (i + (0 : Nat))])) i = tgE false p i ∧ tgE true (pOf (SV.agg [SV.int IntKind.i64 p.k, SV.lst (4 : Nat) p.f.n fun i => (tigF p z).el (i + (0 : Nat))])) i = tgE true p i) →
 false = true ∧ True)))))))))))) ∧ ∀ (z : Nat), z = p.f.1 ∧ (true = false → z = (0 : Nat)) ∧ okP p → (0 : Nat) < (1 : Nat) ∧ (0 : Nat) + z ≤ z ∧ (∀ (i : Nat), i < z → rE (4 : Nat) ∧ True ∧ True ∧ True ∧ True ∧ True) ∧ SV.agg [SV.int IntKind.i64 p.k, SV.lst (4 : Nat) z fun i => (rt p a).f.el (i + (0 : Nat))] = (pOf (SV.agg [SV.int IntKind.i64 p.k, SV.lst (4 : Nat) z fun i => (rt p a).f.el (i + (0 : Nat))])).sv ∧ (0 : Nat) < (1 : Nat) ∧ (0 : Nat) + z ≤ z ∧ (∀ (i : Nat), i < z → rE (4 : Nat) ∧ True ∧ True ∧ True ∧ True ∧ True) ∧ SV.agg [SV.int IntKind.i64 p.k, SV.lst (4 : Nat) z fun i => (rt p a).f.el (i + (0 : Nat))] = (pOf (SV.agg [SV.int IntKind.i64 p.k, SV.lst (4 : Nat) z fun i => (rt p a).f.el (i + (0 : Nat))])).sv ∧ (0 : Nat) < (1 : Nat) ∧ (0 : Nat) + (z + (1 : Nat)) ≤ z + (1 : Nat) ∧ (∀ (i : Nat), i < z + (1 : Nat) → rE (4 : Nat) ∧ True ∧ True ∧ True ∧ True ∧ True) ∧ SV.agg [SV.int
 IntKind.i64 p.k, SV.lst (4 : Nat) (z + (1 : Nat)) fun i => (mo p a b).f.el (i + (0 : Nat))] = (pOf (SV.agg [SV.int IntKind.i64 p.k, SV.lst (4 : Nat) (z + (1 : Nat)) fun i => (mo p a b).f.el (i + (0 : Nat))])).sv ∧ (¬chE (pOf (SV.agg [SV.int IntKind.i64 p.k, SV.lst (4 : Nat) z fun i => (rt p a).f.el (i + (0 : Nat))])) = chE p → false = true ∧ True) ∧ (¬¬chE (pOf (SV.agg [SV.int IntKind.i64 p.k, SV.lst (4 : Nat) z fun i => (rt p a).f.el (i + (0 : Nat))])) = chE p → (¬wrE (pOf (SV.agg [SV.int IntKind.i64 p.k, SV.lst (4 : Nat) z fun i => (rt p a).f.el (i + (0 : Nat))])) = wrE p → false = true ∧ True) ∧ (¬¬wrE (pOf (SV.agg [SV.int IntKind.i64 p.k, SV.lst (4 : Nat) z fun i => (rt p a).f.el (i + (0 : Nat))])) = wrE p → (∀ (i : Nat), i < (wrL p).length → True) ∧ (∀ (i : Nat), i < (wrL (pOf (SV.agg [SV.int IntKind.i64 p.k, SV.lst (4 : Nat) z fun i => (rt p a).f.el (i + (0 : Nat))]))).length →
 True) ∧ ((SV.lst (1 : Nat) (wrL p).length fun k => i6 (↑((wrL p).getD k (0 : Nat)) : Int)) = liN (wrL p).length fun i => prI (i6 (↑((wrL p).getD i (0 : Nat)) : Int))) ∧ ((SV.lst (1 : Nat) (wrL (pOf (SV.agg [SV.int IntKind.i64 p.k, SV.lst (4 : Nat) z fun i => (rt p a).f.el (i + (0 : Nat))]))).length fun k => i6 (↑((wrL (pOf (SV.agg [SV.int IntKind.i64 p.k, SV.lst (4 : Nat) z fun i => (rt p a).f.el (i + (0 : Nat))]))).getD k (0 : Nat)) : Int)) = liN (wrL (pOf (SV.agg [SV.int IntKind.i64 p.k, SV.lst (4 : Nat) z fun i => (rt p a).f.el (i + (0 : Nat))]))).length fun i => prI (i6 (↑((wrL (pOf (SV.agg [SV.int IntKind.i64 p.k, SV.lst (4 : Nat) z fun i => (rt p a).f.el (i + (0 : Nat))]))).getD i (0 : Nat)) : Int))) ∧ (wrL p).length ≤ (100000 : Nat) ∧ (¬((wrL p).length = (wrL (pOf (SV.agg [SV.int IntKind.i64 p.k, SV.lst (4 : Nat) z fun i => (rt p a).f.el (i + (0 : Nat))]))).length ∧ ∀ (i : Nat),
 i < (wrL p).length → (↑((wrL p).getD i (0 : Nat)) : Int) = (↑((wrL (pOf (SV.agg [SV.int IntKind.i64 p.k, SV.lst (4 : Nat) z fun i => (rt p a).f.el (i + (0 : Nat))]))).getD i (0 : Nat)) : Int)) → false = true ∧ True) ∧ (¬¬((wrL p).length = (wrL (pOf (SV.agg [SV.int IntKind.i64 p.k, SV.lst (4 : Nat) z fun i => (rt p a).f.el (i + (0 : Nat))]))).length ∧ ∀ (i : Nat), i < (wrL p).length → (↑((wrL p).getD i (0 : Nat)) : Int) = (↑((wrL (pOf (SV.agg [SV.int IntKind.i64 p.k, SV.lst (4 : Nat) z fun i => (rt p a).f.el (i + (0 : Nat))]))).getD i (0 : Nat)) : Int)) → (¬chE (pOf (SV.agg [SV.int IntKind.i64 p.k, SV.lst (4 : Nat) (z + (1 : Nat)) fun i => (mo p a b).f.el (i + (0 : Nat))])) = chE p → false = true ∧ True) ∧ (¬¬chE (pOf (SV.agg [SV.int IntKind.i64 p.k, SV.lst (4 : Nat) (z + (1 : Nat)) fun i => (mo p a b).f.el (i + (0 : Nat))])) = chE p → (¬chE p = (0 : Int) → (chE p = (6 : Int) → (wrE p =
 (0 : Int) → ((↑(okN p) : Int) = (0 : Int) → rE true ∧ True) ∧ (¬(↑(okN p) : Int) = (0 : Int) → false = true ∧ True)) ∧ (¬wrE p = (0 : Int) → false = true ∧ True)) ∧ (¬chE p = (6 : Int) → false = true ∧ True)) ∧ (¬¬chE p = (0 : Int) → (¬(↑(okN (pOf (SV.agg [SV.int IntKind.i64 p.k, SV.lst (4 : Nat) z fun i => (rt p a).f.el (i + (0 : Nat))]))) : Int) = (↑p.f.1 : Int) → false = true ∧ True) ∧ (¬¬(↑(okN (pOf (SV.agg [SV.int IntKind.i64 p.k, SV.lst (4 : Nat) z fun i => (rt p a).f.el (i + (0 : Nat))]))) : Int) = (↑p.f.1 : Int) → rI ((↑p.f.1 : Int) + (1 : Int)) ∧ (¬(↑(okN (pOf (SV.agg [SV.int IntKind.i64 p.k, SV.lst (4 : Nat) (z + (1 : Nat)) fun i => (mo p a b).f.el (i + (0 : Nat))]))) : Int) = (↑p.f.1 : Int) + (1 : Int) → false = true ∧ True) ∧ (¬¬(↑(okN (pOf (SV.agg [SV.int IntKind.i64 p.k, SV.lst (4 : Nat) (z + (1 : Nat)) fun i => (mo p a b).f.el (i + (0 : Nat))]))) : Int) = (↑p.f.1 : Int) +
 (1 : Int) → (¬(↑(okN p) : Int) = (↑p.f.1 : Int) → false = true ∧ True) ∧ (¬¬(↑(okN p) : Int) = (↑p.f.1 : Int) → (0 : Int) ≤ (↑p.f.1 : Int) ∧ (↑p.f.1 : Int) < (↑(okN (pOf (SV.agg [SV.int IntKind.i64 p.k, SV.lst (4 : Nat) (z + (1 : Nat)) fun i => (mo p a b).f.el (i + (0 : Nat))]))) : Int) ∧ (¬(tgE false (pOf (SV.agg [SV.int IntKind.i64 p.k, SV.lst (4 : Nat) (z + (1 : Nat)) fun i => (mo p a b).f.el (i + (0 : Nat))])) (↑p.f.1 : Int).toNat = (0 : Int) ∧ tgE true (pOf (SV.agg [SV.int IntKind.i64 p.k, SV.lst (4 : Nat) (z + (1 : Nat)) fun i => (mo p a b).f.el (i + (0 : Nat))])) (↑p.f.1 : Int).toNat = (0 : Int)) → false = true ∧ True) ∧ (¬¬(tgE false (pOf (SV.agg [SV.int IntKind.i64 p.k, SV.lst (4 : Nat) (z + (1 : Nat)) fun i => (mo p a b).f.el (i + (0 : Nat))])) (↑p.f.1 : Int).toNat = (0 : Int) ∧ tgE true (pOf (SV.agg [SV.int IntKind.i64 p.k, SV.lst (4 : Nat) (z + (1 : Nat)) fun i => (mo p a
 b).f.el (i + (0 : Nat))])) (↑p.f.1 : Int).toNat = (0 : Int)) → (0 : Nat) < (1 : Nat) ∧ (0 : Nat) < (1 : Nat) ∧ (∀ (i : Nat), i < p.f.1 → rE true) ∧ rE (0 : Nat) ∧ rE (0 : Nat) ∧ (∀ (i : Nat), rE true) ∧ ((0 : Nat) + p.f.1) * (32 : Nat) ≤ (140737488355328 : Nat) ∧ (0 : Nat) + p.f.1 ≤ (4611686018427387904 : Nat) ∧ (∃ z_1, (z_1 ≤ p.f.1 ∧ okP p ∧ ∀ (s : Nat), s < pwk p.1 → bad p.f s = false) ∧ a = a ∧ rE (0 : Nat) ∧ rE (0 : Nat) ∧ rE (okN p) ∧ (∀ (i : Nat), i < okN p → rE ((SV.agg [i6 (tgE false p i), i6 (tgE true p i)]).den) ∧ True ∧ True ∧ True) ∧ rE (↑p.f.1 : Int) ∧ okN (pOf (SV.agg [SV.int IntKind.i64 p.k, SV.lst (4 : Nat) z fun i => (rt p a).f.el (i + (0 : Nat))])) = p.f.1 ∧ (∀ (i : Nat), i < p.f.1 → (SV.agg [i6 (tgE false (pOf (SV.agg [SV.int IntKind.i64 p.k, SV.lst (4 : Nat) z fun i => (rt p a).f.el (i + (0 : Nat))])) i), i6 (tgE true (pOf (SV.agg [SV.int IntKind.i64 p.k, SV.lst (4 :
 Nat) z fun i => (rt p a).f.el (i + (0 : Nat))])) i)]).den = (SV.agg [i6 (tgE false p ((i + a.toNat) % p.f.n)), i6 (tgE true p ((i + a.toNat) % p.f.n))]).den ∧ True ∧ True ∧ True) ∧ okN (pOf (SV.agg [SV.int IntKind.i64 p.k, SV.lst (4 : Nat) (z + (1 : Nat)) fun i => (mo p a b).f.el (i + (0 : Nat))])) = okN (mo p a b) ∧ (∀ (i : Nat), i < okN (mo p a b) → (SV.agg [i6 (tgE false (pOf (SV.agg [SV.int IntKind.i64 p.k, SV.lst (4 : Nat) (z + (1 : Nat)) fun i => (mo p a b).f.el (i + (0 : Nat))])) i), i6 (tgE true (pOf (SV.agg [SV.int IntKind.i64 p.k, SV.lst (4 : Nat) (z + (1 : Nat)) fun i => (mo p a b).f.el (i + (0 : Nat))])) i)]).den = (SV.agg [i6 (tgE false (mo p a b) i), i6 (tgE true (mo p a b) i)]).den ∧ True ∧ True ∧ True) ∧ rE (0 : Nat) ∧ rE (0 : Nat) ∧ (0 : Int) = (↑z_1 : Int) ∧ p.1 = p.1 ∧ rE p.f.1 ∧ (∀ (i : Nat), i < p.f.1 → rE ((p.f.el i).den) ∧ True ∧ True ∧ True ∧ True ∧ True) ∧ p.1 =
 p.1 ∧ rE (0 : Nat) ∧ (0 : Nat) + p.f.1 = p.f.1 ∧ p.f.1 = (0 : Nat) + p.f.1 ∧ (∀ (i : Nat), i < p.f.1 → rE (4 : Nat) ∧ (if i < (0 : Nat) then (0 : Int) else p.f.2 (i - (0 : Nat))) = p.f.2 i ∧ (if i < (0 : Nat) then (0 : Int) else p.f.3 (i - (0 : Nat))) = p.f.3 i ∧ ((if i < (0 : Nat) then (0 : Int) else p.f.4 (i - (0 : Nat))) = if i < z_1 then tgE false p i else p.f.4 i) ∧ ((if i < (0 : Nat) then (0 : Int) else p.f.5 (i - (0 : Nat))) = if i < z_1 then tgE true p i else p.f.5 i) ∧ True) ∧ True) ∧ ∀ (z : Nat), (z ≤ p.f.1 ∧ okP p ∧ ∀ (s : Nat), s < pwk p.1 → bad p.f s = false) → ((↑z : Int) < (↑p.f.1 : Int) → (0 : Int) ≤ (↑z : Int) ∧ (↑z : Int) < (↑p.f.1 : Int) ∧ rI (a) ∧ rI ((↑z : Int) + a) ∧ ((↑p.f.1 : Int) = (0 : Int) → False) ∧ (0 : Int) ≤ ((↑z : Int) + a).tmod (↑p.f.1 : Int) ∧ ((↑z : Int) + a).tmod (↑p.f.1 : Int) < (↑(okN p) : Int) ∧ (¬(tgE false p (((↑z : Int).toNat + a.toNat) % p.f.1)
 = tgE false p (((↑z : Int) + a).tmod (↑p.f.1 : Int)).toNat ∧ tgE true p (((↑z : Int).toNat + a.toNat) % p.f.1) = tgE true p (((↑z : Int) + a).tmod (↑p.f.1 : Int)).toNat) → false = true ∧ True) ∧ (¬¬(tgE false p (((↑z : Int).toNat + a.toNat) % p.f.1) = tgE false p (((↑z : Int) + a).tmod (↑p.f.1 : Int)).toNat ∧ tgE true p (((↑z : Int).toNat + a.toNat) % p.f.1) = tgE true p (((↑z : Int) + a).tmod (↑p.f.1 : Int)).toNat) → (0 : Int) ≤ (↑z : Int) ∧ (↑z : Int) < (↑(okN (mo p a b)) : Int) ∧ (0 : Int) ≤ (↑z : Int) ∧ (↑z : Int) < (↑(okN p) : Int) ∧ (¬(tgE false (mo p a b) (↑z : Int).toNat = tgE false p (↑z : Int).toNat ∧ tgE true (mo p a b) (↑z : Int).toNat = tgE true p (↑z : Int).toNat) → false = true ∧ True) ∧ (¬¬(tgE false (mo p a b) (↑z : Int).toNat = tgE false p (↑z : Int).toNat ∧ tgE true (mo p a b) (↑z : Int).toNat = tgE true p (↑z : Int).toNat) → (0 : Nat) < (1 : Nat) ∧ (0 : Int) ≤ (↑z :
 Int) ∧ (↑z : Int) < (↑(okN p) : Int) ∧ (0 : Int) ≤ (↑z : Int) ∧ (↑z : Int) < (↑p.f.1 : Int) ∧ (2 : Nat) + (2 : Nat) ≤ (4 : Nat) ∧ (0 : Nat) + (↑z : Int).toNat < p.f.1 ∧ (∀ (i' : Nat), rE true) ∧ rI ((↑z : Int) + (1 : Int)) ∧ ∃ z_1, (z_1 ≤ p.f.1 ∧ okP p ∧ ∀ (s : Nat), s < pwk p.1 → bad p.f s = false) ∧ p.f.1 - z_1 < p.f.1 - z ∧ a = a ∧ rE (0 : Nat) ∧ rE (0 : Nat) ∧ rE (okN p) ∧ (∀ (i : Nat), i < okN p → rE ((SV.agg [i6 (tgE false p i), i6 (tgE true p i)]).den) ∧ True ∧ True ∧ True) ∧ rE (↑p.f.1 : Int) ∧ rE p.f.1 ∧ (∀ (i : Nat), i < p.f.1 → rE ((SV.agg [i6 (tgE false p ((i + a.toNat) % p.f.n)), i6 (tgE true p ((i + a.toNat) % p.f.n))]).den) ∧ True ∧ True ∧ True) ∧ rE (okN (mo p a b)) ∧ (∀ (i : Nat), i < okN (mo p a b) → rE ((SV.agg [i6 (tgE false (mo p a b) i), i6 (tgE true (mo p a b) i)]).den) ∧ True ∧ True ∧ True) ∧ rE (0 : Nat) ∧ rE (0 : Nat) ∧ (↑z : Int) + (1 : Int) = (↑z_1 : Int) ∧
 p.1 = p.1 ∧ rE p.f.1 ∧ (∀ (i : Nat), i < p.f.1 → rE ((p.f.el i).den) ∧ True ∧ True ∧ True ∧ True ∧ True) ∧ p.1 = p.1 ∧ rE (0 : Nat) ∧ rE p.f.1 ∧ rE p.f.1 ∧ (∀ (i : Nat), i < p.f.1 → rE (4 : Nat) ∧ (if i = (0 : Nat) + (↑z : Int).toNat then p.f.2 i else p.f.2 i) = p.f.2 i ∧ (if i = (0 : Nat) + (↑z : Int).toNat then p.f.3 i else p.f.3 i) = p.f.3 i ∧ ((if i = (0 : Nat) + (↑z : Int).toNat then tgE false p (↑z : Int).toNat else if i < z then tgE false p i else p.f.4 i) = if i < z_1 then tgE false p i else p.f.4 i) ∧ ((if i = (0 : Nat) + (↑z : Int).toNat then tgE true p (↑z : Int).toNat else if i < z then tgE true p i else p.f.5 i) = if i < z_1 then tgE true p i else p.f.5 i) ∧ True) ∧ True))) ∧ (¬(↑z : Int) < (↑p.f.1 : Int) → (0 : Nat) < (1 : Nat) ∧ (0 : Nat) + p.f.1 ≤ p.f.1 ∧ (∀ (i : Nat), i < p.f.1 → rE (4 : Nat) ∧ True ∧ True ∧ True ∧ True ∧ True) ∧ SV.agg [SV.int IntKind.i64 p.k, SV.lst
 (4 : Nat) p.f.n fun i => (tigF p z).el (i + (0 : Nat))] = (pOf (SV.agg [SV.int IntKind.i64 p.k, SV.lst (4 : Nat) p.f.n fun i => (tigF p z).el (i + (0 : Nat))])).sv ∧ (∀ (i : Nat), i < okN (pOf (SV.agg [SV.int IntKind.i64 p.k, SV.lst (4 : Nat) p.f.n fun i => (tigF p z).el (i + (0 : Nat))])) → True ∧ True ∧ True) ∧ (∀ (i : Nat), i < okN p → True ∧ True ∧ True) ∧ ((SV.lst (2 : Nat) (okN (pOf (SV.agg [SV.int IntKind.i64 p.k, SV.lst (4 : Nat) p.f.n fun i => (tigF p z).el (i + (0 : Nat))]))) fun k => SV.agg [i6 (tgE false (pOf (SV.agg [SV.int IntKind.i64 p.k, SV.lst (4 : Nat) p.f.n fun i => (tigF p z).el (i + (0 : Nat))])) k), i6 (tgE true (pOf (SV.agg [SV.int IntKind.i64 p.k, SV.lst (4 : Nat) p.f.n fun i => (tigF p z).el (i + (0 : Nat))])) k)]) = spN (okN (pOf (SV.agg [SV.int IntKind.i64 p.k, SV.lst (4 : Nat) p.f.n fun i => (tigF p z).el (i + (0 : Nat))]))) (fun i => cel (SV.agg [i6 (tgE
 false (pOf (SV.agg [SV.int IntKind.i64 p.k, SV.lst (4 : Nat) p.f.n fun i => (tigF p z).el (i + (0 : Nat))])) i), i6 (tgE true (pOf (SV.agg [SV.int IntKind.i64 p.k, SV.lst (4 : Nat) p.f.n fun i => (tigF p z).el (i + (0 : Nat))])) i)]) (0 : Nat)) fun i => cel (SV.agg [i6 (tgE false (pOf (SV.agg [SV.int IntKind.i64 p.k, SV.lst (4 : Nat) p.f.n fun i => (tigF p z).el (i + (0 : Nat))])) i), i6 (tgE true (pOf (SV.agg [SV.int IntKind.i64 p.k, SV.lst (4 : Nat) p.f.n fun i => (tigF p z).el (i + (0 : Nat))])) i)]) (1 : Nat)) ∧ ((SV.lst (2 : Nat) (okN p) fun k => SV.agg [i6 (tgE false p k), i6 (tgE true p k)]) = spN (okN p) (fun i => cel (SV.agg [i6 (tgE false p i), i6 (tgE true p i)]) (0 : Nat)) fun i => cel (SV.agg [i6 (tgE false p i), i6 (tgE true p i)]) (1 : Nat)) ∧ okN (pOf (SV.agg [SV.int IntKind.i64 p.k, SV.lst (4 : Nat) p.f.n fun i => (tigF p z).el (i + (0 : Nat))])) ≤ (100000 : Nat) ∧
 ((okN (pOf (SV.agg [SV.int IntKind.i64 p.k, SV.lst (4 : Nat) p.f.n fun i => (tigF p z).el (i + (0 : Nat))])) = okN p ∧ ∀ (i : Nat), i < okN (pOf (SV.agg [SV.int IntKind.i64 p.k, SV.lst (4 : Nat) p.f.n fun i => (tigF p z).el (i + (0 : Nat))])) → tgE false (pOf (SV.agg [SV.int IntKind.i64 p.k, SV.lst (4 : Nat) p.f.n fun i => (tigF p z).el (i + (0 : Nat))])) i = tgE false p i ∧ tgE true (pOf (SV.agg [SV.int IntKind.i64 p.k, SV.lst (4 : Nat) p.f.n fun i => (tigF p z).el (i + (0 : Nat))])) i = tgE true p i) → (chE (pOf (SV.agg [SV.int IntKind.i64 p.k, SV.lst (4 : Nat) p.f.n fun i => (tigF p z).el (i + (0 : Nat))])) = (0 : Int) → rE true ∧ True) ∧ (¬chE (pOf (SV.agg [SV.int IntKind.i64 p.k, SV.lst (4 : Nat) p.f.n fun i => (tigF p z).el (i + (0 : Nat))])) = (0 : Int) → false = true ∧ True)) ∧ (¬(okN (pOf (SV.agg [SV.int IntKind.i64 p.k, SV.lst (4 : Nat) p.f.n fun i => (tigF p z).el (i + (0 :
 Nat))])) = okN p ∧ ∀ (i : Nat), i < okN (pOf (SV.agg [SV.int IntKind.i64 p.k, SV.lst (4 : Nat) p.f.n fun i => (tigF p z).el (i + (0 : Nat))])) → tgE false (pOf (SV.agg [SV.int IntKind.i64 p.k, SV.lst (4 : Nat) p.f.n fun i => (tigF p z).el (i + (0 : Nat))])) i = tgE false p i ∧ tgE true (pOf (SV.agg [SV.int IntKind.i64 p.k, SV.lst (4 : Nat) p.f.n fun i => (tigF p z).el (i + (0 : Nat))])) i = tgE true p i) → false = true ∧ True)))))))))))))))) := by kernel_rfl
end Go.Proofs.Ytnbeifpcmjnlkaa

set_option maxRecDepth 100000
namespace Go.Proofs.Ytnbeifpcmjnlkaa
open Go Go.Lg
attribute [local irreducible] funS bodyH
structure FF (p q : Pl) (σ : Nat → Nat) : Prop where
  c : chE q = chE p
  w : wrE q = wrE p
  l : wrL q = wrL p
  t : ∀ (b : Bool) (i : Nat), i < p.f.n → tgE b q i = tgE b p (σ i)
theorem ff_of {p q : Pl} {σ} (h : same p q p.f.n σ) (ok : okP q ↔ okP p) : FF p q σ := by
  obtain ⟨e, f⟩ := same_c h
  have c : chE q = chE p := by
    unfold chE
    rw [e]
    by_cases hp : okP p
    · rw [if_pos hp, if_pos (ok.2 hp)]
    · rw [if_neg hp, if_neg fun x => hp (ok.1 x)]
  have w : wrE q = wrE p := by
    unfold wrE
    rw [e]
    by_cases hp : okP p
    · rw [if_pos hp, if_pos (ok.2 hp)]
    · rw [if_neg hp, if_neg fun x => hp (ok.1 x)]
  exact ⟨c, w, by unfold wrL; rw [w, f], fun b i hi => same_tg h hi b⟩
theorem nil_ff {p : Pl} (hp : okP p) (h0 : p.f.n = 0) (σ : Nat → Nat) : FF p (nilP p.k) σ := by
  have Z : ∀ (P : Nat → Bool) (g : Nat → Int), sm P g p.f.n = 0 := fun P g => by rw [h0]; rfl
  exact ff_of ⟨rfl, fun s => (Z (tkB p.f s) p.f.lo).symm, fun s => (Z (tkB p.f s) p.f.hi).symm, fun s => (Z (gvB p.f s) p.f.lo).symm, fun s => (Z (gvB p.f s) p.f.hi).symm, fun i hi => absurd hi (by omega)⟩
    ⟨fun _ => hp, fun _ => ⟨hp.k, by show (0 : Nat) ≤ 16; omega, fun i (hi : i < 0) => absurd hi (by omega), fun i (hi : i < 0) => absurd hi (by omega), fun i (hi : i < 0) => absurd hi (by omega), fun i (hi : i < 0) => absurd hi (by omega)⟩⟩
theorem rt_ff {p : Pl} (hp : okP p) (a : Int) : FF p (rt p a) fun i => (i + a.toNat) % p.f.n :=
  ff_of (rot_same p a.toNat) ⟨fun _ => hp, fun _ => rot_ok hp _⟩
theorem fa_in {p : Pl} (hp : okP p) {a b : Int} (ha : 0 ≤ a ∧ a < 256) (hb : 0 ≤ b ∧ b < 256) : (0 ≤ b.tmod p.k ∧ b.tmod p.k < p.k) ∧ (0 ≤ a.tmod (p.k - 1) ∧ a.tmod (p.k - 1) < p.k - 1) ∧ (0 ≤ ta p a b ∧ ta p a b < p.k) ∧ ¬ fa p b = ta p a b := by
  have hk := hp.k
  have h1 : 0 ≤ b.tmod p.k := Int.tmod_nonneg _ hb.1
  have h2 : b.tmod p.k < p.k := Int.tmod_lt_of_pos _ (by omega)
  have h3 : 0 ≤ a.tmod (p.k - 1) := Int.tmod_nonneg _ ha.1
  have h4 : a.tmod (p.k - 1) < p.k - 1 := Int.tmod_lt_of_pos _ (by omega)
  unfold ta fa
  generalize b.tmod p.k = B at *
  generalize a.tmod (p.k - 1) = A at *
  have h5 : 0 ≤ (B + 1 + A).tmod p.k := Int.tmod_nonneg _ (by omega)
  have h6 : (B + 1 + A).tmod p.k < p.k := Int.tmod_lt_of_pos _ (by omega)
  refine ⟨⟨h1, h2⟩, ⟨h3, h4⟩, ⟨h5, h6⟩, ?_⟩
  rw [Int.tmod_eq_emod_of_nonneg (by omega)]
  by_cases hl : B + 1 + A < p.k
  · rw [Int.emod_eq_of_lt (by omega) hl]; omega
  · have e : (B + 1 + A) % p.k = B + 1 + A - p.k := by
      rw [← Int.sub_emod_right, Int.emod_eq_of_lt (by omega) (by omega)]
    rw [e]; omega
theorem mo_okP {p : Pl} (hp : okP p) {a b : Int} (ha : 0 ≤ a ∧ a < 256) (hb : 0 ≤ b ∧ b < 256) (hn : p.f.n ≤ 15) : okP (mo p a b) := by
  obtain ⟨h1, _, h2, h3⟩ := fa_in hp ha hb
  exact mor_ok hp hn h1 h2 h3
theorem mo_ff {p : Pl} (hp : okP p) {a b : Int} (ha : 0 ≤ a ∧ a < 256) (hb : 0 ≤ b ∧ b < 256) (hn : p.f.n ≤ 15) : FF p (mo p a b) id :=
  ff_of (mor_same p _ _) ⟨fun _ => hp, fun _ => mo_okP hp ha hb hn⟩
theorem mo_hof {p : Pl} {a b : Int} (h : Hof p) : Hof (mo p a b) := (same_hof (mor_same p (fa p b) (ta p a b))).2 h
theorem mo_fold (p : Pl) (a b : Int) : SV.agg [SV.int .i64 p.k, SV.lst 4 (p.f.n + 1) (mo p a b).f.el] = (mo p a b).sv := rfl
theorem rt_fold (p : Pl) (a : Int) : SV.agg [SV.int .i64 p.k, SV.lst 4 p.f.n (rt p a).f.el] = (rt p a).sv := rfl
theorem ti_fold (p : Pl) (m : Nat) : SV.agg [SV.int .i64 p.k, SV.lst 4 p.f.n (tigF p m).el] = (Pl.mk p.k (tigF p m)).sv := rfl
theorem rm_mod (a : Int) (n : Nat) (ha : 0 ≤ a) (z : Nat) : ((z : Int) + a).tmod (n : Int) = ((z + a.toNat) % n : Nat) := by
  obtain ⟨x, rfl⟩ := Int.eq_ofNat_of_zero_le ha
  rfl
theorem wr_len (p : Pl) : (wrL p).length ≤ 100000 := by
  unfold wrL
  split
  · unfold plL
    have := fl_le (p := fun x => hb (cFs p) (x : Int)) 8
    omega
  · exact Nat.zero_le _
end Go.Proofs.Ytnbeifpcmjnlkaa

set_option maxRecDepth 100000
namespace Go.Proofs.Ytnbeifpcmjnlkaa
open Go Go.Lg
attribute [local irreducible] funS bodyH
theorem li_fold (n : Nat) (f : Nat → Int) : SV.lst 1 n (fun k => i6 (f k)) = liN n f := rfl
theorem sp_fold (n : Nat) (f g : Nat → Int) : SV.lst 2 n (fun k => SV.agg [i6 (f k), i6 (g k)]) = spN n f g := rfl
theorem pr_fold (x : Int) : prI (i6 x) = x := rfl
theorem ce_0 (x y : Int) : cel (SV.agg [i6 x, i6 y]) 0 = x := rfl
theorem ce_1 (x y : Int) : cel (SV.agg [i6 x, i6 y]) 1 = y := rfl
theorem stp {i z : Nat} {x y : Nat → Int} : (if i = z then x z else if i < z then x i else y i) = if i < z + 1 then x i else y i := by
  by_cases e : i = z
  · subst e; rw [if_pos rfl, if_pos (Nat.lt_succ_self _)]
  · rw [if_neg e]
    by_cases l : i < z
    · rw [if_pos l, if_pos (by omega)]
    · rw [if_neg l, if_neg (by omega)]
theorem sam_true {p : Pl} {a b : Int} (ha : 0 ≤ a ∧ a < 256) (hb : 0 ≤ b ∧ b < 256) : samG p a b := by
  rw [samG_vc]
  simp only [rI, rE, tt3, tt4, tt5, tt13, tt14, and_true, true_and, Nat.zero_lt_one, and_self, implies_true, Int.toNat_natCast, Nat.zero_add, Nat.add_zero, Nat.one_mul, Nat.mul_one, Classical.not_not, iff_self, Bool.false_eq_true, imp_false, and_imp, true_implies, forall_const, psv, p_fold, ff2, forall_eq, Bool.true_eq_false, false_implies, mo_fold, rt_fold, ti_fold, rm_mod a _ ha.1, li_fold, sp_fold, pr_fold, ce_0, ce_1, fa, ta, Nat.not_lt_zero, if_false, Nat.sub_zero, ite_self, wr_len, Nat.le_refl, reduceCtorEq]
  intro hn
  have hn : p.f.n ≤ 15 := by omega
  have E1 : ¬ okP p → chE p = 1 ∧ wrE p = 1 := fun h => ⟨by rw [chE, if_neg h], by rw [wrE, if_neg h]⟩
  have E2 : chE p = 1 → wrE p = chE p := fun h => by
    by_cases hp : okP p
    · by_cases hh : Hof p
      · have := (chE_ok hp hh).1; omega
      · have := chE_no hp hh; omega
    · rw [(E1 hp).1, (E1 hp).2]
  refine ⟨fun h => ⟨E2, h⟩, fun h1 => ⟨fun hp => ⟨E2, (E1 hp).1⟩, fun hp => ?_⟩⟩
  have hk := hp.k
  obtain ⟨hB, hA, hT, hD⟩ := fa_in hp ha hb
  have A : ¬ chE p = 0 → wrE p = 0 ∧ (okN p : Int) = 0 ∧ chE p = 6 := fun h => by
    have hh : ¬ Hof p := fun x => h (chE_ok hp x).1
    have hc : cEx p = true := by
      cases hc : cEx p
      · exact absurd (cEx_hof.1 hc) hh
      · rfl
    exact ⟨by rw [wrE, if_pos hp, hc]; rfl, by rw [okN, if_neg h]; rfl, chE_no hp hh⟩
  have M := mo_ff hp ha hb hn
  have mk := mo_okP hp ha hb hn
  have ok0 : ∀ {R : Pl}, FF p R (fun i => (i + a.toNat) % p.f.n) → R.f.n = p.f.n → chE p = 0 → okN R = p.f.n := fun F h hc => by rw [okN, if_pos (F.c.trans hc), h]
  have L : ∀ z : Nat, (z : Int) < (p.f.n : Int) → (((z + a.toNat) % p.f.n : Nat) : Int) < (p.f.n : Int) := fun z hl => Int.ofNat_lt.2 (Nat.mod_lt _ (by omega))
  clear hD
  unfold ta fa at hT
  generalize b.tmod p.k = B at hB hT ⊢
  generalize a.tmod (p.k - 1) = C at hA hT ⊢
  refine ⟨⟨0, ⟨Nat.zero_le _, rfl, hp⟩, rfl⟩, fun z hz h0 _ => ⟨fun hl => ?a1, fun hl => ⟨by omega, by omega, ?a2, fun h0 _ => ?n1, fun _ => ?r1⟩⟩, fun z hz _ => ⟨fun hl => ?a3, fun hl => ⟨by omega, by omega, ?a4, fun h0 _ => ?n2, fun _ => ?r2⟩⟩⟩
  case a1 =>
    subst h0
    exact ⟨by omega, by omega, by omega, Int.natCast_nonneg _, L _ hl, by omega, by omega, by omega, 1, ⟨by omega, hp⟩, by omega, by omega, rfl, rfl, fun i hi => by
      have : i = 0 := by omega
      subst this; exact ⟨rfl, rfl, rfl, rfl⟩⟩
  case a2 => exact ⟨by omega, by omega, by omega, by omega, by omega, by omega, by omega, by omega, by omega, by omega, p.f.n, ⟨rfl, by omega, hp⟩, rfl, rfl⟩
  case a3 =>
    exact ⟨by omega, by omega, by omega, Int.natCast_nonneg _, L _ hl, by omega, by omega, by omega, z + 1, ⟨by omega, hp⟩, by omega, by omega, rfl, rfl, fun i hi => by
      by_cases e : i < z
      · simp only [if_pos e, and_self]
      · have : i = z := by omega
        subst this; simp only [if_neg e, and_self]⟩
  case a4 => exact ⟨by omega, by omega, by omega, by omega, by omega, by omega, by omega, by omega, by omega, by omega, p.f.n, ⟨rfl, hp⟩, by omega, rfl, by omega, rfl⟩
  case' n1 =>
    have F := nil_ff hp h0 (fun i => (i + a.toNat) % p.f.n)
    have oR := ok0 F h0.symm
  case' n2 =>
    have F := nil_ff hp h0 (fun i => (i + a.toNat) % p.f.n)
    have oR := ok0 F h0.symm
  case' r1 =>
    have F := rt_ff hp a
    have oR := ok0 F rfl
  case' r2 =>
    have F := rt_ff hp a
    have oR := ok0 F rfl
  all_goals
    refine ⟨F.c, fun _ => ⟨F.w, fun _ => ⟨by rw [F.l]; exact ⟨rfl, fun _ _ => rfl⟩, fun _ _ => ⟨M.c, fun _ => ⟨fun h => ⟨fun _ => ⟨fun _ => (A h).2.1, (A h).1⟩, (A h).2.2⟩, fun hc => ?_⟩⟩⟩⟩⟩
    obtain ⟨_, hh⟩ := chE_0 hc
    have N := (chE_ok hp hh).2
    have nR := oR hc
    have nM : okN (mo p a b) = p.f.n + 1 := (chE_ok mk (mo_hof hh)).2
    have g := tg_in mk (mo_hof hh) (i := p.f.n) (Nat.lt_succ_self _)
    have g1 : (mo p a b).f.lo p.f.n = 0 := if_neg (Nat.lt_irrefl _)
    have g2 : (mo p a b).f.hi p.f.n = 0 := if_neg (Nat.lt_irrefl _)
    rw [nR, nM, N]
    refine ⟨rfl, fun _ => ⟨by omega, by omega, fun _ => ⟨rfl, fun _ => ⟨by omega, by omega, ⟨by omega, by omega⟩, fun _ _ => ⟨by omega, by omega, ⟨0, ⟨Nat.zero_le _, hp, hh⟩, rfl, fun i hi => by rw [F.t _ i hi, F.t _ i hi], rfl, fun i hi => ⟨(if_neg (Nat.not_lt_zero _)).symm, (if_neg (Nat.not_lt_zero _)).symm⟩⟩, fun z hz _ _ => ⟨fun hl => ?_, fun hl => ?_⟩⟩⟩⟩⟩⟩
    · have hi : z < p.f.n := by omega
      exact ⟨by omega, hl, by omega, by omega, by omega, Int.natCast_nonneg _, L _ hl, by omega, by omega, by omega, hl, ⟨M.t _ z hi, M.t _ z hi⟩, fun _ _ => ⟨by omega, hl, by omega, hl, by omega, by omega, z + 1, ⟨by omega, hp, hh⟩, by omega, by omega, fun i _ => ⟨stp (x := tgE false p) (y := p.f.lo), stp (x := tgE true p) (y := p.f.hi)⟩⟩⟩
    · have e : z = p.f.n := by omega
      subst e
      have C := tig_ch hp hh
      exact ⟨Nat.le_trans (Nat.le_of_eq C.2) (by omega), fun _ _ => C.1, C.2, fun i hi => tig_tg hp hh (Nat.lt_of_lt_of_le hi (Nat.le_of_eq C.2))⟩
end Go.Proofs.Ytnbeifpcmjnlkaa
