import Derived.Test.YtnbeifpcmjnlkaaBcBcVBdBeBf
set_option linter.unusedVariables false
set_option linter.unusedSimpArgs false
set_option maxRecDepth 100000
namespace Go.Proofs.Ytnbeifpcmjnlkaa
open Go Go.Lg
attribute [local irreducible] bodyH
abbrev hInts : Nat := 16
abbrev hSpans : Nat := 17
abbrev hPlant : Nat := 24
abbrev hspan : Nat := 26
abbrev hsum : Nat := 27
abbrev hin : Nat := 41
noncomputable def inG (n a b : Int) : Prop := funH Try.prog (ctrs []) noX (ictrs []) noL noL hin [i6 n, i6 a, i6 b] (.dec (a ≤ n ∧ n ≤ b) inferInstance)
def inC : Ctr := ⟨hin, fun args k => match args with
  | [.int .i64 n, .int .i64 a, .int .i64 b] => k (.dec (a ≤ n ∧ n ≤ b) inferInstance)
  | _ => False⟩
noncomputable def rPlG (p : Pl) : Prop := funH Try.prog (ctrs [inC]) noX (ictrs []) (oneL 0 (natH (fun i => i ≤ p.f.n ∧ (2 ≤ p.k ∧ p.k ≤ 8 ∧ p.f.n ≤ 16) ∧ ∀ j, j < i → okFl p j) (fun i => p.f.n - i) 1
  (fun i => mkF 71 [(1, .ptr 0 0 0), (3, i6 i)]) (fun _ => mkX [vr 2 p.sv]) fun _ => none)) noL hPlant [p.sv] (.dec (okP p) (Classical.propDecidable _))
structure isP (p : Pl) (n : Nat) (x : Nat → Int) : Prop where
  n : n = p.f.n
  gas : ∀ i, i < p.f.n → p.f.lo i ≤ x i ∧ x i ≤ p.f.hi i
  net : ∀ v, v < 8 → netN p.f x v p.f.n = 0
structure okG (p : Pl) : Prop where
  n : p.f.n ≤ 1000
  fr : ∀ i, i < p.f.n → 0 ≤ p.f.fr i ∧ p.f.fr i < 8
  to : ∀ i, i < p.f.n → 0 ≤ p.f.to i ∧ p.f.to i < 8
  lo : ∀ i, i < p.f.n → -2147483648 ≤ p.f.lo i ∧ p.f.lo i ≤ 2147483648
  hi : ∀ i, i < p.f.n → -2147483648 ≤ p.f.hi i ∧ p.f.hi i ≤ 2147483648
noncomputable def itsG (n n' : Nat) (f f' : Nat → Int) : Prop := funH Try.prog (ctrs []) noX (ictrs []) (oneL 0 (natH (fun z => z ≤ n ∧ ∀ i, i < z → f i = f' i) (fun z => n - z) 0
  (fun z => mkF 26 [(0, liN n f), (1, liN n' f'), (5, i6 z)]) (fun _ => mkX []) fun _ => none)) noL hInts [liN n f, liN n' f'] (.dec (n = n' ∧ ∀ i, i < n → f i = f' i) (Classical.propDecidable _))
noncomputable def itsC : Ctr := ⟨hInts, fun args k => match args with
  | [.lst 1 n f, .lst 1 n' f'] => SV.lst 1 n f = liN n (fun i => prI (f i)) ∧ SV.lst 1 n' f' = liN n' (fun i => prI (f' i)) ∧ n ≤ 100000 ∧ k (.dec (n = n' ∧ ∀ i, i < n → prI (f i) = prI (f' i)) (Classical.propDecidable _))
  | _ => False⟩
noncomputable def spsG (n n' : Nat) (f g f' g' : Nat → Int) : Prop := funH Try.prog (ctrs []) noX (ictrs []) (oneL 0 (natH (fun z => z ≤ n ∧ ∀ i, i < z → f i = f' i ∧ g i = g' i) (fun z => n - z) 0
  (fun z => mkF 26 [(0, spN n f g), (1, spN n' f' g'), (5, i6 z)]) (fun _ => mkX []) fun _ => none)) noL hSpans [spN n f g, spN n' f' g'] (.dec (n = n' ∧ ∀ i, i < n → f i = f' i ∧ g i = g' i) (Classical.propDecidable _))
noncomputable def spsC : Ctr := ⟨hSpans, fun args k => match args with
  | [.lst 2 n f, .lst 2 n' f'] => SV.lst 2 n f = spN n (fun i => cel (f i) 0) (fun i => cel (f i) 1) ∧ SV.lst 2 n' f' = spN n' (fun i => cel (f' i) 0) (fun i => cel (f' i) 1) ∧ n ≤ 100000 ∧ k (.dec (n = n' ∧ ∀ i, i < n → cel (f i) 0 = cel (f' i) 0 ∧ cel (f i) 1 = cel (f' i) 1) (Classical.propDecidable _))
  | _ => False⟩
noncomputable def spaG (a b : Int) : Prop := funH Try.prog (ctrs []) noX (ictrs []) noL noL hspan [i6 a, i6 b] (.agg [i6 a, i6 b])
def spaC : Ctr := ⟨hspan, fun args k => match args with
  | [.int .i64 a, .int .i64 b] => k (.agg [i6 a, i6 b])
  | _ => False⟩
def isV (P : Nat → Bool) : SV := .agg [dB (P 0), dB (P 1), dB (P 2), dB (P 3), dB (P 4), dB (P 5), dB (P 6), dB (P 7), dB (P 8), dB (P 9), dB (P 10), dB (P 11), dB (P 12), dB (P 13), dB (P 14), dB (P 15)]
def ct (L : List Nat) (i x : Nat) : Bool := (L.take i).contains x
def crB (f : Fl) (L : List Nat) (o : Bool) (but : Int) (i : Nat) : Bool := !decide ((i : Int) = but) && (L.contains (f.fr i).toNat != L.contains (f.to i).toNat) && (L.contains (f.fr i).toNat == o)
def suL (p : Pl) (L : List Nat) (o : Bool) (but : Int) : Int := sm (crB p.f L o but) p.f.lo p.f.n
def suH (p : Pl) (L : List Nat) (o : Bool) (but : Int) : Int := sm (crB p.f L o but) p.f.hi p.f.n
noncomputable def sumG (p : Pl) (L : List Nat) (o : Bool) (but : Int) : Prop := funH Try.prog (ctrs [spaC]) noX (ictrs [])
  (twoL 0 (natH (fun i => i ≤ L.length) (fun i => L.length - i) 3 (fun i => mkF 74 [(1, lstI L), (2, dB o), (3, i6 but), (4, .ptr 0 0 0), (8, .ptr 1 0 0), (9, .ptr 2 0 0), (10, i6 i)]) (fun i => mkX [vr 2 p.sv, vr 2 (.agg [i6 0, i6 0]), vr 16 (isV (ct L i))]) fun _ => none) <|
   oneL 2 (natH (fun i => i ≤ p.f.n) (fun i => p.f.n - i) 4 (fun i => mkF 74 [(2, dB o), (3, i6 but), (4, .ptr 0 0 0), (8, .ptr 1 0 0), (9, .ptr 2 0 0), (11, .ptr 3 0 0), (12, i6 i)])
     (fun i => mkX [vr 2 p.sv, vr 2 (.agg [i6 0, i6 0]), vr 16 (isV fun x => L.contains x), vr 2 (.agg [i6 (sm (crB p.f L o but) p.f.lo i), i6 (sm (crB p.f L o but) p.f.hi i)])]) fun _ => none)) noL hsum [p.sv, lstI L, dB o, i6 but] (.agg [i6 (suL p L o but), i6 (suH p L o but)])
def sumC : Ctr := plC hsum fun p r k => match r with
  | [.lst 1 n g, .bool o, .int .i64 but] => okG p ∧ ∃ L : List Nat, SV.lst 1 n g = lstI L ∧ (L.length ≤ 1000 ∧ ∀ y ∈ L, y < 16) ∧ k (.agg [i6 (suL p L o but), i6 (suH p L o but)])
  | _ => False
end Go.Proofs.Ytnbeifpcmjnlkaa

set_option maxRecDepth 100000
namespace Go.Proofs.Ytnbeifpcmjnlkaa
open Go Go.Lg
theorem inG_vc (n : Int) (a : Int) (b : Int) : inG n a b =
 ((a ≤ n → (n ≤ b ↔ a ≤ n ∧ n ≤ b) ∧ True) ∧ (¬a ≤ n → (false = true ↔ a ≤ n ∧ n ≤ b) ∧ True)) := by kernel_rfl
theorem rPlG_vc (p : Pl) : rPlG p =
 ((0 : Nat) < (1 : Nat) ∧ (¬((2 : Int) ≤ p.1 ∧ p.1 ≤ (8 : Int)) → (false = true ↔ okP p) ∧ True) ∧ (¬¬((2 : Int) ≤ p.1 ∧ p.1 ≤ (8 : Int)) → (0 : Nat) < (1 : Nat) ∧ ((16 : Int) < (↑p.f.1 : Int) → (false = true ↔ okP p) ∧ True) ∧ (¬(16 : Int) < (↑p.f.1 : Int) → (∃ z, (z ≤ p.f.1 ∧ ((2 : Int) ≤ p.1 ∧ p.1 ≤ (8 : Int) ∧ p.f.1 ≤ (16 : Nat)) ∧ ∀ (j : Nat), j < z → okFl p j) ∧ rE (0 : Nat) ∧ rE (0 : Nat) ∧ (0 : Int) = (↑z : Int) ∧ p.1 = p.1 ∧ rE p.f.1 ∧ (∀ (i : Nat), i < p.f.1 → rE ((p.f.el i).den) ∧ True ∧ True ∧ True ∧ True ∧ True) ∧ True) ∧ ∀ (z : Nat), (z ≤ p.f.1 ∧ ((2 : Int) ≤ p.1 ∧ p.1 ≤ (8 : Int) ∧ p.f.1 ≤ (16 : Nat)) ∧ ∀ (j : Nat), j < z → okFl p j) → (0 : Nat) < (1 : Nat) ∧ ((↑z : Int) < (↑p.f.1 : Int) → (0 : Nat) < (1 : Nat) ∧ (0 : Int) ≤ (↑z : Int) ∧ (↑z : Int) < (↑p.f.1 : Int) ∧ (0 : Nat) < (1 : Nat) ∧ (0 : Nat) < (1 : Nat) ∧ rI (p.1 - (1 : Int)) ∧ (¬((0 : Int) ≤ p.f.2 (↑z : Int).toNat
 ∧ p.f.2 (↑z : Int).toNat ≤ p.1 - (1 : Int)) → (false = true ↔ okP p) ∧ True) ∧ (¬¬((0 : Int) ≤ p.f.2 (↑z : Int).toNat ∧ p.f.2 (↑z : Int).toNat ≤ p.1 - (1 : Int)) → (0 : Nat) < (1 : Nat) ∧ (0 : Nat) < (1 : Nat) ∧ rI (p.1 - (1 : Int)) ∧ (¬((0 : Int) ≤ p.f.3 (↑z : Int).toNat ∧ p.f.3 (↑z : Int).toNat ≤ p.1 - (1 : Int)) → (false = true ↔ okP p) ∧ True) ∧ (¬¬((0 : Int) ≤ p.f.3 (↑z : Int).toNat ∧ p.f.3 (↑z : Int).toNat ≤ p.1 - (1 : Int)) → (0 : Nat) < (1 : Nat) ∧ (0 : Nat) < (1 : Nat) ∧ (p.f.2 (↑z : Int).toNat = p.f.3 (↑z : Int).toNat → (false = true ↔ okP p) ∧ True) ∧ (¬p.f.2 (↑z : Int).toNat = p.f.3 (↑z : Int).toNat → (0 : Nat) < (1 : Nat) ∧ (p.f.4 (↑z : Int).toNat < (0 : Int) → (false = true ↔ okP p) ∧ True) ∧ (¬p.f.4 (↑z : Int).toNat < (0 : Int) → (0 : Nat) < (1 : Nat) ∧ (0 : Nat) < (1 : Nat) ∧ (p.f.5 (↑z : Int).toNat < p.f.4 (↑z : Int).toNat → (false = true ↔ okP p) ∧ True) ∧ (¬p.f.5 (↑z
 : Int).toNat < p.f.4 (↑z : Int).toNat → (0 : Nat) < (1 : Nat) ∧ ((1073741824 : Int) < p.f.5 (↑z : Int).toNat → (false = true ↔ okP p) ∧ True) ∧ (¬(1073741824 : Int) < p.f.5 (↑z : Int).toNat → rI ((↑z : Int) + (1 : Int)) ∧ ∃ z_1, (z_1 ≤ p.f.1 ∧ ((2 : Int) ≤ p.1 ∧ p.1 ≤ (8 : Int) ∧ p.f.1 ≤ (16 : Nat)) ∧ ∀ (j : Nat), j < z_1 → okFl p j) ∧ p.f.1 - z_1 < p.f.1 - z ∧ rE (0 : Nat) ∧ rE (0 : Nat) ∧ (↑z : Int) + (1 : Int) = (↑z_1 : Int) ∧ p.1 = p.1 ∧ rE p.f.1 ∧ (∀ (i : Nat), i < p.f.1 → rE ((p.f.el i).den) ∧ True ∧ True ∧ True ∧ True ∧ True) ∧ True))))))) ∧ (¬(↑z : Int) < (↑p.f.1 : Int) → (rE true ↔ okP p) ∧ True)))) := by kernel_rfl
theorem itsG_vc (n : Nat) (n' : Nat) (f : Nat → Int) (f' : Nat → Int) : itsG n n' f f' =
 ((¬(↑n : Int) = (↑n' : Int) → (false = true ↔ n = n' ∧ ∀ (i : Nat), i < n → f i = f' i) ∧ True) ∧ (¬¬(↑n : Int) = (↑n' : Int) → (∃ z, (z ≤ n ∧ ∀ (i : Nat), i < z → f i = f' i) ∧ n = n ∧ (∀ (i : Nat), i < n → rE ((i6 (f i)).den) ∧ True) ∧ n' = n' ∧ (∀ (i : Nat), i < n' → rE ((i6 (f' i)).den) ∧ True) ∧ (0 : Int) = (↑z : Int) ∧ True) ∧ ∀ (z : Nat), (z ≤ n ∧ ∀ (i : Nat), i < z → f i = f' i) → ((↑z : Int) < (↑n : Int) → (0 : Int) ≤ (↑z : Int) ∧ (↑z : Int) < (↑n : Int) ∧ (0 : Int) ≤ (↑z : Int) ∧ (↑z : Int) < (↑n' : Int) ∧ (¬f (↑z : Int).toNat = f' (↑z : Int).toNat → (false = true ↔ n = n' ∧ ∀ (i : Nat), i < n → f i = f' i) ∧ True) ∧ (¬¬f (↑z : Int).toNat = f' (↑z : Int).toNat → rI ((↑z : Int) + (1 : Int)) ∧ ∃ z_1, (z_1 ≤ n ∧ ∀ (i : Nat), i < z_1 → f i = f' i) ∧ n - z_1 < n - z ∧ n = n ∧ (∀ (i : Nat), i < n → rE ((i6 (f i)).den) ∧ True) ∧ n' = n' ∧ (∀ (i : Nat), i < n' → rE ((i6 (f' i)).den) ∧
 True) ∧ (↑z : Int) + (1 : Int) = (↑z_1 : Int) ∧ True)) ∧ (¬(↑z : Int) < (↑n : Int) → (rE true ↔ n = n' ∧ ∀ (i : Nat), i < n → f i = f' i) ∧ True))) := by kernel_rfl
theorem spsG_vc (n : Nat) (n' : Nat) (f : Nat → Int) (g : Nat → Int) (f' : Nat → Int) (g' : Nat → Int) : spsG n n' f g f' g' =
 ((¬(↑n : Int) = (↑n' : Int) → (false = true ↔ n = n' ∧ ∀ (i : Nat), i < n → f i = f' i ∧ g i = g' i) ∧ True) ∧ (¬¬(↑n : Int) = (↑n' : Int) → (∃ z, (z ≤ n ∧ ∀ (i : Nat), i < z → f i = f' i ∧ g i = g' i) ∧ n = n ∧ (∀ (i : Nat), i < n → rE ((SV.agg [i6 (f i), i6 (g i)]).den) ∧ True ∧ True ∧ True) ∧ n' = n' ∧ (∀ (i : Nat), i < n' → rE ((SV.agg [i6 (f' i), i6 (g' i)]).den) ∧ True ∧ True ∧ True) ∧ (0 : Int) = (↑z : Int) ∧ True) ∧ ∀ (z : Nat), (z ≤ n ∧ ∀ (i : Nat), i < z → f i = f' i ∧ g i = g' i) → ((↑z : Int) < (↑n : Int) → (0 : Int) ≤ (↑z : Int) ∧ (↑z : Int) < (↑n : Int) ∧ (0 : Int) ≤ (↑z : Int) ∧ (↑z : Int) < (↑n' : Int) ∧ (¬(f (↑z : Int).toNat = f' (↑z : Int).toNat ∧ g (↑z : Int).toNat = g' (↑z : Int).toNat) → (false = true ↔ n = n' ∧ ∀ (i : Nat), i < n → f i = f' i ∧ g i = g' i) ∧ True) ∧ (¬¬(f (↑z : Int).toNat = f' (↑z : Int).toNat ∧ g (↑z : Int).toNat = g' (↑z : Int).toNat) → rI ((↑z :
 Int) + (1 : Int)) ∧ ∃ z_1, (z_1 ≤ n ∧ ∀ (i : Nat), i < z_1 → f i = f' i ∧ g i = g' i) ∧ n - z_1 < n - z ∧ n = n ∧ (∀ (i : Nat), i < n → rE ((SV.agg [i6 (f i), i6 (g i)]).den) ∧ True ∧ True ∧ True) ∧ n' = n' ∧ (∀ (i : Nat), i < n' → rE ((SV.agg [i6 (f' i), i6 (g' i)]).den) ∧ True ∧ True ∧ True) ∧ (↑z : Int) + (1 : Int) = (↑z_1 : Int) ∧ True)) ∧ (¬(↑z : Int) < (↑n : Int) → (rE true ↔ n = n' ∧ ∀ (i : Nat), i < n → f i = f' i ∧ g i = g' i) ∧ True))) := by kernel_rfl
theorem spaG_vc (a : Int) (b : Int) : spaG a b =
 ((0 : Nat) < (1 : Nat) ∧ a = a ∧ b = b ∧ True) := by kernel_rfl
theorem sumG_vc (p : Pl) (L : List Nat) (o : Bool) (but : Int) : sumG p L o but =
 ((∃ z, z ≤ L.length ∧ rE L.length ∧ (∀ (i : Nat), i < L.length → rE ((i6 (↑(L.getD i (0 : Nat)) : Int)).den) ∧ True) ∧ (o = true ↔ o = true) ∧ but = but ∧ rE (0 : Nat) ∧ rE (0 : Nat) ∧ rE (0 : Nat) ∧ rE (0 : Nat) ∧ rE (0 : Nat) ∧ rE (0 : Nat) ∧ (0 : Int) = (↑z : Int) ∧ p.1 = p.1 ∧ rE p.f.1 ∧ (∀ (i : Nat), i < p.f.1 → rE ((p.f.el i).den) ∧ True ∧ True ∧ True ∧ True ∧ True) ∧ rE (0 : Int) ∧ rE (0 : Int) ∧ (false = true ↔ ct L z (0 : Nat) = true) ∧ (false = true ↔ ct L z (1 : Nat) = true) ∧ (false = true ↔ ct L z (2 : Nat) = true) ∧ (false = true ↔ ct L z (3 : Nat) = true) ∧ (false = true ↔ ct L z (4 : Nat) = true) ∧ (false = true ↔ ct L z (5 : Nat) = true) ∧ (false = true ↔ ct L z (6 : Nat) = true) ∧ (false = true ↔ ct L z (7 : Nat) = true) ∧ (false = true ↔ ct L z (8 : Nat) = true) ∧ (false = true ↔ ct L z (9 : Nat) = true) ∧ (false = true ↔ ct L z (10 : Nat) = true) ∧ (false = true ↔ ct
 L z (11 : Nat) = true) ∧ (false = true ↔ ct L z (12 : Nat) = true) ∧ (false = true ↔ ct L z (13 : Nat) = true) ∧ (false = true ↔ ct L z (14 : Nat) = true) ∧ (false = true ↔ ct L z (15 : Nat) = true) ∧ True) ∧ ∀ (z : Nat), z ≤ L.length → ((↑z : Int) < (↑L.length : Int) → (0 : Int) ≤ (↑z : Int) ∧ (↑z : Int) < (↑L.length : Int) ∧ (0 : Int) ≤ (↑(L.getD (↑z : Int).toNat (0 : Nat)) : Int) ∧ (↑(L.getD (↑z : Int).toNat (0 : Nat)) : Int) < (↑(16 : Nat) : Int) ∧ (0 : Nat) + (↑(L.getD (↑z : Int).toNat (0 : Nat)) : Int).toNat * (1 : Nat) < (16 : Nat) ∧ rI ((↑z : Int) + (1 : Int)) ∧ ∃ z_1, z_1 ≤ L.length ∧ L.length - z_1 < L.length - z ∧ rE L.length ∧ (∀ (i : Nat), i < L.length → rE ((i6 (↑(L.getD i (0 : Nat)) : Int)).den) ∧ True) ∧ (o = true ↔ o = true) ∧ but = but ∧ rE (0 : Nat) ∧ rE (0 : Nat) ∧ rE (0 : Nat) ∧ rE (0 : Nat) ∧ rE (0 : Nat) ∧ rE (0 : Nat) ∧ (↑z : Int) + (1 : Int) = (↑z_1 : Int) ∧ p.1
 = p.1 ∧ rE p.f.1 ∧ (∀ (i : Nat), i < p.f.1 → rE ((p.f.el i).den) ∧ True ∧ True ∧ True ∧ True ∧ True) ∧ rE (0 : Int) ∧ rE (0 : Int) ∧ ((0 : Nat) + (↑(L.getD (↑z : Int).toNat (0 : Nat)) : Int).toNat * Nat.succ (0 : Nat) = (0 : Nat) ∧ rE true ∨ ¬(0 : Nat) + (↑(L.getD (↑z : Int).toNat (0 : Nat)) : Int).toNat * Nat.succ (0 : Nat) = (0 : Nat) ∧ decP (dB (ct L z (0 : Nat))) ↔ ct L z_1 (0 : Nat) = true) ∧ ((0 : Nat) + (↑(L.getD (↑z : Int).toNat (0 : Nat)) : Int).toNat * Nat.succ (0 : Nat) = (0 : Nat) + (1 : Nat) ∧ rE true ∨ ¬(0 : Nat) + (↑(L.getD (↑z : Int).toNat (0 : Nat)) : Int).toNat * Nat.succ (0 : Nat) = (0 : Nat) + (1 : Nat) ∧ decP (dB (ct L z (1 : Nat))) ↔ ct L z_1 (1 : Nat) = true) ∧ ((0 : Nat) + (↑(L.getD (↑z : Int).toNat (0 : Nat)) : Int).toNat * Nat.succ (0 : Nat) = (0 : Nat) + (1 : Nat) + (1 : Nat) ∧ rE true ∨ ¬(0 : Nat) + (↑(L.getD (↑z : Int).toNat (0 : Nat)) : Int).toNat *
 Nat.succ (0 : Nat) = (0 : Nat) + (1 : Nat) + (1 : Nat) ∧ decP (dB (ct L z (2 : Nat))) ↔ ct L z_1 (2 : Nat) = true) ∧ ((0 : Nat) + (↑(L.getD (↑z : Int).toNat (0 : Nat)) : Int).toNat * Nat.succ (0 : Nat) = (0 : Nat) + (1 : Nat) + (1 : Nat) + (1 : Nat) ∧ rE true ∨ ¬(0 : Nat) + (↑(L.getD (↑z : Int).toNat (0 : Nat)) : Int).toNat * Nat.succ (0 : Nat) = (0 : Nat) + (1 : Nat) + (1 : Nat) + (1 : Nat) ∧ decP (dB (ct L z (3 : Nat))) ↔ ct L z_1 (3 : Nat) = true) ∧ ((0 : Nat) + (↑(L.getD (↑z : Int).toNat (0 : Nat)) : Int).toNat * Nat.succ (0 : Nat) = (0 : Nat) + (1 : Nat) + (1 : Nat) + (1 : Nat) + (1 : Nat) ∧ rE true ∨ ¬(0 : Nat) + (↑(L.getD (↑z : Int).toNat (0 : Nat)) : Int).toNat * Nat.succ (0 : Nat) = (0 : Nat) + (1 : Nat) + (1 : Nat) + (1 : Nat) + (1 : Nat) ∧ decP (dB (ct L z (4 : Nat))) ↔ ct L z_1 (4 : Nat) = true) ∧ ((0 : Nat) + (↑(L.getD (↑z : Int).toNat (0 : Nat)) : Int).toNat * Nat.succ (0
 : Nat) = (0 : Nat) + (1 : Nat) + (1 : Nat) + (1 : Nat) + (1 : Nat) + (1 : Nat) ∧ rE true ∨ ¬(0 : Nat) + (↑(L.getD (↑z : Int).toNat (0 : Nat)) : Int).toNat * Nat.succ (0 : Nat) = (0 : Nat) + (1 : Nat) + (1 : Nat) + (1 : Nat) + (1 : Nat) + (1 : Nat) ∧ decP (dB (ct L z (5 : Nat))) ↔ ct L z_1 (5 : Nat) = true) ∧ ((0 : Nat) + (↑(L.getD (↑z : Int).toNat (0 : Nat)) : Int).toNat * Nat.succ (0 : Nat) = (0 : Nat) + (1 : Nat) + (1 : Nat) + (1 : Nat) + (1 : Nat) + (1 : Nat) + (1 : Nat) ∧ rE true ∨ ¬(0 : Nat) + (↑(L.getD (↑z : Int).toNat (0 : Nat)) : Int).toNat * Nat.succ (0 : Nat) = (0 : Nat) + (1 : Nat) + (1 : Nat) + (1 : Nat) + (1 : Nat) + (1 : Nat) + (1 : Nat) ∧ decP (dB (ct L z (6 : Nat))) ↔ ct L z_1 (6 : Nat) = true) ∧ ((0 : Nat) + (↑(L.getD (↑z : Int).toNat (0 : Nat)) : Int).toNat * Nat.succ (0 : Nat) = (0 : Nat) + (1 : Nat) + (1 : Nat) + (1 : Nat) + (1 : Nat) + (1 : Nat) + (1 : Nat) + (1 :
 Nat) ∧ rE true ∨ ¬(0 : Nat) + (↑(L.getD (↑z : Int).toNat (0 : Nat)) : Int).toNat * Nat.succ (0 : Nat) = (0 : Nat) + (1 : Nat) + (1 : Nat) + (1 : Nat) + (1 : Nat) + (1 : Nat) + (1 : Nat) + (1 : Nat) ∧ decP (dB (ct L z (7 : Nat))) ↔ ct L z_1 (7 : Nat) = true) ∧ ((0 : Nat) + (↑(L.getD (↑z : Int).toNat (0 : Nat)) : Int).toNat * Nat.succ (0 : Nat) = (0 : Nat) + (1 : Nat) + (1 : Nat) + (1 : Nat) + (1 : Nat) + (1 : Nat) + (1 : Nat) + (1 : Nat) + (1 : Nat) ∧ rE true ∨ ¬(0 : Nat) + (↑(L.getD (↑z : Int).toNat (0 : Nat)) : Int).toNat * Nat.succ (0 : Nat) = (0 : Nat) + (1 : Nat) + (1 : Nat) + (1 : Nat) + (1 : Nat) + (1 : Nat) + (1 : Nat) + (1 : Nat) + (1 : Nat) ∧ decP (dB (ct L z (8 : Nat))) ↔ ct L z_1 (8 : Nat) = true) ∧ ((0 : Nat) + (↑(L.getD (↑z : Int).toNat (0 : Nat)) : Int).toNat * Nat.succ (0 : Nat) = (0 : Nat) + (1 : Nat) + (1 : Nat) + (1 : Nat) + (1 : Nat) + (1 : Nat) + (1 : Nat) + (1 :
 Nat) + (1 : Nat) + (1 : Nat) ∧ rE true ∨ ¬(0 : Nat) + (↑(L.getD (↑z : Int).toNat (0 : Nat)) : Int).toNat * Nat.succ (0 : Nat) = (0 : Nat) + (1 : Nat) + (1 : Nat) + (1 : Nat) + (1 : Nat) + (1 : Nat) + (1 : Nat) + (1 : Nat) + (1 : Nat) + (1 : Nat) ∧ decP (dB (ct L z (9 : Nat))) ↔ ct L z_1 (9 : Nat) = true) ∧ ((0 : Nat) + (↑(L.getD (↑z : Int).toNat (0 : Nat)) : Int).toNat * Nat.succ (0 : Nat) = (0 : Nat) + (1 : Nat) + (1 : Nat) + (1 : Nat) + (1 : Nat) + (1 : Nat) + (1 : Nat) + (1 : Nat) + (1 : Nat) + (1 : Nat) + (1 : Nat) ∧ rE true ∨ ¬(0 : Nat) + (↑(L.getD (↑z : Int).toNat (0 : Nat)) : Int).toNat * Nat.succ (0 : Nat) = (0 : Nat) + (1 : Nat) + (1 : Nat) + (1 : Nat) + (1 : Nat) + (1 : Nat) + (1 : Nat) + (1 : Nat) + (1 : Nat) + (1 : Nat) + (1 : Nat) ∧ decP (dB (ct L z (10 : Nat))) ↔ ct L z_1 (10 : Nat) = true) ∧ ((0 : Nat) + (↑(L.getD (↑z : Int).toNat (0 : Nat)) : Int).toNat * Nat.succ (0 :
 Nat) = (0 : Nat) + (1 : Nat) + (1 : Nat) + (1 : Nat) + (1 : Nat) + (1 : Nat) + (1 : Nat) + (1 : Nat) + (1 : Nat) + (1 : Nat) + (1 : Nat) + (1 : Nat) ∧ rE true ∨ ¬(0 : Nat) + (↑(L.getD (↑z : Int).toNat (0 : Nat)) : Int).toNat * Nat.succ (0 : Nat) = (0 : Nat) + (1 : Nat) + (1 : Nat) + (1 : Nat) + (1 : Nat) + (1 : Nat) + (1 : Nat) + (1 : Nat) + (1 : Nat) + (1 : Nat) + (1 : Nat) + (1 : Nat) ∧ decP (dB (ct L z (11 : Nat))) ↔ ct L z_1 (11 : Nat) = true) ∧ ((0 : Nat) + (↑(L.getD (↑z : Int).toNat (0 : Nat)) : Int).toNat * Nat.succ (0 : Nat) = (0 : Nat) + (1 : Nat) + (1 : Nat) + (1 : Nat) + (1 : Nat) + (1 : Nat) + (1 : Nat) + (1 : Nat) + (1 : Nat) + (1 : Nat) + (1 : Nat) + (1 : Nat) + (1 : Nat) ∧ rE true ∨ ¬(0 : Nat) + (↑(L.getD (↑z : Int).toNat (0 : Nat)) : Int).toNat * Nat.succ (0 : Nat) = (0 : Nat) + (1 : Nat) + (1 : Nat) + (1 : Nat) + (1 : Nat) + (1 : Nat) + (1 : Nat) + (1 : Nat) + (1 : Nat)
 + (1 : Nat) + (1 : Nat) + (1 : Nat) + (1 : Nat) ∧ decP (dB (ct L z (12 : Nat))) ↔ ct L z_1 (12 : Nat) = true) ∧ ((0 : Nat) + (↑(L.getD (↑z : Int).toNat (0 : Nat)) : Int).toNat * Nat.succ (0 : Nat) = (0 : Nat) + (1 : Nat) + (1 : Nat) + (1 : Nat) + (1 : Nat) + (1 : Nat) + (1 : Nat) + (1 : Nat) + (1 : Nat) + (1 : Nat) + (1 : Nat) + (1 : Nat) + (1 : Nat) + (1 : Nat) ∧ rE true ∨ ¬(0 : Nat) + (↑(L.getD (↑z : Int).toNat (0 : Nat)) : Int).toNat * Nat.succ (0 : Nat) = (0 : Nat) + (1 : Nat) + (1 : Nat) + (1 : Nat) + (1 : Nat) + (1 : Nat) + (1 : Nat) + (1 : Nat) + (1 : Nat) + (1 : Nat) + (1 : Nat) + (1 : Nat) + (1 : Nat) + (1 : Nat) ∧ decP (dB (ct L z (13 : Nat))) ↔ ct L z_1 (13 : Nat) = true) ∧ ((0 : Nat) + (↑(L.getD (↑z : Int).toNat (0 : Nat)) : Int).toNat * Nat.succ (0 : Nat) = (0 : Nat) + (1 : Nat) + (1 : Nat) + (1 : Nat) + (1 : Nat) + (1 : Nat) + (1 : Nat) + (1 : Nat) + (1 : Nat) + (1 : Nat)
 + (1 : Nat) + (1 : Nat) + (1 : Nat) + (1 : Nat) + (1 : Nat) ∧ rE true ∨ ¬(0 : Nat) + (↑(L.getD (↑z : Int).toNat (0 : Nat)) : Int).toNat * Nat.succ (0 : Nat) = (0 : Nat) + (1 : Nat) + (1 : Nat) + (1 : Nat) + (1 : Nat) + (1 : Nat) + (1 : Nat) + (1 : Nat) + (1 : Nat) + (1 : Nat) + (1 : Nat) + (1 : Nat) + (1 : Nat) + (1 : Nat) + (1 : Nat) ∧ decP (dB (ct L z (14 : Nat))) ↔ ct L z_1 (14 : Nat) = true) ∧ ((0 : Nat) + (↑(L.getD (↑z : Int).toNat (0 : Nat)) : Int).toNat * Nat.succ (0 : Nat) = (0 : Nat) + (1 : Nat) + (1 : Nat) + (1 : Nat) + (1 : Nat) + (1 : Nat) + (1 : Nat) + (1 : Nat) + (1 : Nat) + (1 : Nat) + (1 : Nat) + (1 : Nat) + (1 : Nat) + (1 : Nat) + (1 : Nat) + (1 : Nat) ∧ rE true ∨ ¬(0 : Nat) + (↑(L.getD (↑z : Int).toNat (0 : Nat)) : Int).toNat * Nat.succ (0 : Nat) = (0 : Nat) + (1 : Nat) + (1 : Nat) + (1 : Nat) + (1 : Nat) + (1 : Nat) + (1 : Nat) + (1 : Nat) + (1 : Nat) + (1 : Nat) + (1
 : Nat) + (1 : Nat) + (1 : Nat) + (1 : Nat) + (1 : Nat) + (1 : Nat) ∧ decP (dB (ct L z (15 : Nat))) ↔ ct L z_1 (15 : Nat) = true) ∧ True) ∧ (¬(↑z : Int) < (↑L.length : Int) → (∃ z_1, z_1 ≤ p.f.1 ∧ (o = true ↔ o = true) ∧ but = but ∧ rE (0 : Nat) ∧ rE (0 : Nat) ∧ rE (0 : Nat) ∧ rE (0 : Nat) ∧ rE (0 : Nat) ∧ rE (0 : Nat) ∧ rE (0 : Nat) ∧ rE (0 : Nat) ∧ (0 : Int) = (↑z_1 : Int) ∧ p.1 = p.1 ∧ rE p.f.1 ∧ (∀ (i : Nat), i < p.f.1 → rE ((p.f.el i).den) ∧ True ∧ True ∧ True ∧ True ∧ True) ∧ rE (0 : Int) ∧ rE (0 : Int) ∧ (ct L z (0 : Nat) = true ↔ L.contains (0 : Nat) = true) ∧ (ct L z (1 : Nat) = true ↔ L.contains (1 : Nat) = true) ∧ (ct L z (2 : Nat) = true ↔ L.contains (2 : Nat) = true) ∧ (ct L z (3 : Nat) = true ↔ L.contains (3 : Nat) = true) ∧ (ct L z (4 : Nat) = true ↔ L.contains (4 : Nat) = true) ∧ (ct L z (5 : Nat) = true ↔ L.contains (5 : Nat) = true) ∧ (ct L z (6 : Nat) = true ↔
 L.contains (6 : Nat) = true) ∧ (ct L z (7 : Nat) = true ↔ L.contains (7 : Nat) = true) ∧ (ct L z (8 : Nat) = true ↔ L.contains (8 : Nat) = true) ∧ (ct L z (9 : Nat) = true ↔ L.contains (9 : Nat) = true) ∧ (ct L z (10 : Nat) = true ↔ L.contains (10 : Nat) = true) ∧ (ct L z (11 : Nat) = true ↔ L.contains (11 : Nat) = true) ∧ (ct L z (12 : Nat) = true ↔ L.contains (12 : Nat) = true) ∧ (ct L z (13 : Nat) = true ↔ L.contains (13 : Nat) = true) ∧ (ct L z (14 : Nat) = true ↔ L.contains (14 : Nat) = true) ∧ (ct L z (15 : Nat) = true ↔ L.contains (15 : Nat) = true) ∧ (0 : Int) = sm (crB p.f L o but) p.f.lo z_1 ∧ (0 : Int) = sm (crB p.f L o but) p.f.hi z_1 ∧ True) ∧ ∀ (z : Nat), z ≤ p.f.1 → (0 : Nat) < (1 : Nat) ∧ ((↑z : Int) < (↑p.f.1 : Int) → (0 : Nat) < (1 : Nat) ∧ (0 : Int) ≤ (↑z : Int) ∧ (↑z : Int) < (↑p.f.1 : Int) ∧ (¬(↑z : Int) = but → (0 : Nat) < (1 : Nat) ∧ (0 : Int) ≤ p.f.2 (↑z :
 Int).toNat ∧ p.f.2 (↑z : Int).toNat < (↑(16 : Nat) : Int) ∧ (0 : Nat) < (1 : Nat) ∧ (0 : Nat) + (p.f.2 (↑z : Int).toNat).toNat * (1 : Nat) < (16 : Nat) ∧ (0 : Nat) < (1 : Nat) ∧ (0 : Int) ≤ p.f.3 (↑z : Int).toNat ∧ p.f.3 (↑z : Int).toNat < (↑(16 : Nat) : Int) ∧ (0 : Nat) < (1 : Nat) ∧ (0 : Nat) + (p.f.3 (↑z : Int).toNat).toNat * (1 : Nat) < (16 : Nat) ∧ (¬(cellD (isV fun x => L.contains x).cells ((0 : Nat) + (p.f.fr (↑z : Int).toNat).toNat * Nat.succ (0 : Nat)) ↔ cellD (isV fun x => L.contains x).cells ((0 : Nat) + (p.f.to (↑z : Int).toNat).toNat * Nat.succ (0 : Nat))) → (0 : Nat) < (1 : Nat) ∧ (0 : Int) ≤ p.f.2 (↑z : Int).toNat ∧ p.f.2 (↑z : Int).toNat < (↑(16 : Nat) : Int) ∧ (0 : Nat) < (1 : Nat) ∧ (0 : Nat) + (p.f.2 (↑z : Int).toNat).toNat * (1 : Nat) < (16 : Nat) ∧ ((cellD (isV fun x => L.contains x).cells ((0 : Nat) + (p.f.fr (↑z : Int).toNat).toNat * Nat.succ (0 : Nat)) ↔ o =
 true) → (0 : Nat) < (1 : Nat) ∧ (0 : Nat) < (1 : Nat) ∧ rI (sm (crB p.f L o but) p.f.lo z + p.f.4 (↑z : Int).toNat) ∧ (0 : Nat) < (1 : Nat) ∧ (0 : Nat) < (1 : Nat) ∧ rI (sm (crB p.f L o but) p.f.hi z + p.f.5 (↑z : Int).toNat) ∧ rI ((↑z : Int) + (1 : Int)) ∧ ∃ z_1, z_1 ≤ p.f.1 ∧ p.f.1 - z_1 < p.f.1 - z ∧ (o = true ↔ o = true) ∧ but = but ∧ rE (0 : Nat) ∧ rE (0 : Nat) ∧ rE (0 : Nat) ∧ rE (0 : Nat) ∧ rE (0 : Nat) ∧ rE (0 : Nat) ∧ rE (0 : Nat) ∧ rE (0 : Nat) ∧ (↑z : Int) + (1 : Int) = (↑z_1 : Int) ∧ p.1 = p.1 ∧ rE p.f.1 ∧ (∀ (i : Nat), i < p.f.1 → rE ((p.f.el i).den) ∧ True ∧ True ∧ True ∧ True ∧ True) ∧ rE (0 : Int) ∧ rE (0 : Int) ∧ (L.contains (0 : Nat) = true ↔ L.contains (0 : Nat) = true) ∧ (L.contains (1 : Nat) = true ↔ L.contains (1 : Nat) = true) ∧ (L.contains (2 : Nat) = true ↔ L.contains (2 : Nat) = true) ∧ (L.contains (3 : Nat) = true ↔ L.contains (3 : Nat) = true) ∧ (L.contains
 (4 : Nat) = true ↔ L.contains (4 : Nat) = true) ∧ (L.contains (5 : Nat) = true ↔ L.contains (5 : Nat) = true) ∧ (L.contains (6 : Nat) = true ↔ L.contains (6 : Nat) = true) ∧ (L.contains (7 : Nat) = true ↔ L.contains (7 : Nat) = true) ∧ (L.contains (8 : Nat) = true ↔ L.contains (8 : Nat) = true) ∧ (L.contains (9 : Nat) = true ↔ L.contains (9 : Nat) = true) ∧ (L.contains (10 : Nat) = true ↔ L.contains (10 : Nat) = true) ∧ (L.contains (11 : Nat) = true ↔ L.contains (11 : Nat) = true) ∧ (L.contains (12 : Nat) = true ↔ L.contains (12 : Nat) = true) ∧ (L.contains (13 : Nat) = true ↔ L.contains (13 : Nat) = true) ∧ (L.contains (14 : Nat) = true ↔ L.contains (14 : Nat) = true) ∧ (L.contains (15 : Nat) = true ↔ L.contains (15 : Nat) = true) ∧ sm (crB p.f L o but) p.f.lo z + p.f.4 (↑z : Int).toNat = sm (crB p.f L o but) p.f.lo z_1 ∧ sm (crB p.f L o but) p.f.hi z + p.f.5 (↑z : Int).toNat = sm (crB
 p.f L o but) p.f.hi z_1 ∧ True) ∧ (¬(cellD (isV fun x => L.contains x).cells ((0 : Nat) + (p.f.fr (↑z : Int).toNat).toNat * Nat.succ (0 : Nat)) ↔ o = true) → rI ((↑z : Int) + (1 : Int)) ∧ ∃ z_1, z_1 ≤ p.f.1 ∧ p.f.1 - z_1 < p.f.1 - z ∧ (o = true ↔ o = true) ∧ but = but ∧ rE (0 : Nat) ∧ rE (0 : Nat) ∧ rE (0 : Nat) ∧ rE (0 : Nat) ∧ rE (0 : Nat) ∧ rE (0 : Nat) ∧ rE (0 : Nat) ∧ rE (0 : Nat) ∧ (↑z : Int) + (1 : Int) = (↑z_1 : Int) ∧ p.1 = p.1 ∧ rE p.f.1 ∧ (∀ (i : Nat), i < p.f.1 → rE ((p.f.el i).den) ∧ True ∧ True ∧ True ∧ True ∧ True) ∧ rE (0 : Int) ∧ rE (0 : Int) ∧ (L.contains (0 : Nat) = true ↔ L.contains (0 : Nat) = true) ∧ (L.contains (1 : Nat) = true ↔ L.contains (1 : Nat) = true) ∧ (L.contains (2 : Nat) = true ↔ L.contains (2 : Nat) = true) ∧ (L.contains (3 : Nat) = true ↔ L.contains (3 : Nat) = true) ∧ (L.contains (4 : Nat) = true ↔ L.contains (4 : Nat) = true) ∧ (L.contains (5 : Nat)
 = true ↔ L.contains (5 : Nat) = true) ∧ (L.contains (6 : Nat) = true ↔ L.contains (6 : Nat) = true) ∧ (L.contains (7 : Nat) = true ↔ L.contains (7 : Nat) = true) ∧ (L.contains (8 : Nat) = true ↔ L.contains (8 : Nat) = true) ∧ (L.contains (9 : Nat) = true ↔ L.contains (9 : Nat) = true) ∧ (L.contains (10 : Nat) = true ↔ L.contains (10 : Nat) = true) ∧ (L.contains (11 : Nat) = true ↔ L.contains (11 : Nat) = true) ∧ (L.contains (12 : Nat) = true ↔ L.contains (12 : Nat) = true) ∧ (L.contains (13 : Nat) = true ↔ L.contains (13 : Nat) = true) ∧ (L.contains (14 : Nat) = true ↔ L.contains (14 : Nat) = true) ∧ (L.contains (15 : Nat) = true ↔ L.contains (15 : Nat) = true) ∧ sm (crB p.f L o but) p.f.lo z = sm (crB p.f L o but) p.f.lo z_1 ∧ sm (crB p.f L o but) p.f.hi z = sm (crB p.f L o but) p.f.hi z_1 ∧ True)) ∧ (¬¬(cellD (isV fun x => L.contains x).cells ((0 : Nat) + (p.f.fr (↑z :
 Int).toNat).toNat * Nat.succ (0 : Nat)) ↔ cellD (isV fun x => L.contains x).cells ((0 : Nat) + (p.f.to (↑z : Int).toNat).toNat * Nat.succ (0 : Nat))) → rI ((↑z : Int) + (1 : Int)) ∧ ∃ z_1, z_1 ≤ p.f.1 ∧ p.f.1 - z_1 < p.f.1 - z ∧ (o = true ↔ o = true) ∧ but = but ∧ rE (0 : Nat) ∧ rE (0 : Nat) ∧ rE (0 : Nat) ∧ rE (0 : Nat) ∧ rE (0 : Nat) ∧ rE (0 : Nat) ∧ rE (0 : Nat) ∧ rE (0 : Nat) ∧ (↑z : Int) + (1 : Int) = (↑z_1 : Int) ∧ p.1 = p.1 ∧ rE p.f.1 ∧ (∀ (i : Nat), i < p.f.1 → rE ((p.f.el i).den) ∧ True ∧ True ∧ True ∧ True ∧ True) ∧ rE (0 : Int) ∧ rE (0 : Int) ∧ (L.contains (0 : Nat) = true ↔ L.contains (0 : Nat) = true) ∧ (L.contains (1 : Nat) = true ↔ L.contains (1 : Nat) = true) ∧ (L.contains (2 : Nat) = true ↔ L.contains (2 : Nat) = true) ∧ (L.contains (3 : Nat) = true ↔ L.contains (3 : Nat) = true) ∧ (L.contains (4 : Nat) = true ↔ L.contains (4 : Nat) = true) ∧ (L.contains (5 : Nat) =
 true ↔ L.contains (5 : Nat) = true) ∧ (L.contains (6 : Nat) = true ↔ L.contains (6 : Nat) = true) ∧ (L.contains (7 : Nat) = true ↔ L.contains (7 : Nat) = true) ∧ (L.contains (8 : Nat) = true ↔ L.contains (8 : Nat) = true) ∧ (L.contains (9 : Nat) = true ↔ L.contains (9 : Nat) = true) ∧ (L.contains (10 : Nat) = true ↔ L.contains (10 : Nat) = true) ∧ (L.contains (11 : Nat) = true ↔ L.contains (11 : Nat) = true) ∧ (L.contains (12 : Nat) = true ↔ L.contains (12 : Nat) = true) ∧ (L.contains (13 : Nat) = true ↔ L.contains (13 : Nat) = true) ∧ (L.contains (14 : Nat) = true ↔ L.contains (14 : Nat) = true) ∧ (L.contains (15 : Nat) = true ↔ L.contains (15 : Nat) = true) ∧ sm (crB p.f L o but) p.f.lo z = sm (crB p.f L o but) p.f.lo z_1 ∧ sm (crB p.f L o but) p.f.hi z = sm (crB p.f L o but) p.f.hi z_1 ∧ True)) ∧ (¬¬(↑z : Int) = but → rI ((↑z : Int) + (1 : Int)) ∧ ∃ z_1, z_1 ≤ p.f.1 ∧ p.f.1 - z_1 <
 p.f.1 - z ∧ (o = true ↔ o = true) ∧ but = but ∧ rE (0 : Nat) ∧ rE (0 : Nat) ∧ rE (0 : Nat) ∧ rE (0 : Nat) ∧ rE (0 : Nat) ∧ rE (0 : Nat) ∧ rE (0 : Nat) ∧ rE (0 : Nat) ∧ (↑z : Int) + (1 : Int) = (↑z_1 : Int) ∧ p.1 = p.1 ∧ rE p.f.1 ∧ (∀ (i : Nat), i < p.f.1 → rE ((p.f.el i).den) ∧ True ∧ True ∧ True ∧ True ∧ True) ∧ rE (0 : Int) ∧ rE (0 : Int) ∧ (L.contains (0 : Nat) = true ↔ L.contains (0 : Nat) = true) ∧ (L.contains (1 : Nat) = true ↔ L.contains (1 : Nat) = true) ∧ (L.contains (2 : Nat) = true ↔ L.contains (2 : Nat) = true) ∧ (L.contains (3 : Nat) = true ↔ L.contains (3 : Nat) = true) ∧ (L.contains (4 : Nat) = true ↔ L.contains (4 : Nat) = true) ∧ (L.contains (5 : Nat) = true ↔ L.contains (5 : Nat) = true) ∧ (L.contains (6 : Nat) = true ↔ L.contains (6 : Nat) = true) ∧ (L.contains (7 : Nat) = true ↔ L.contains (7 : Nat) = true) ∧ (L.contains (8 : Nat) = true ↔ L.contains (8 : Nat) =
 true) ∧ (L.contains (9 : Nat) = true ↔ L.contains (9 : Nat) = true) ∧ (L.contains (10 : Nat) = true ↔ L.contains (10 : Nat) = true) ∧ (L.contains (11 : Nat) = true ↔ L.contains (11 : Nat) = true) ∧ (L.contains (12 : Nat) = true ↔ L.contains (12 : Nat) = true) ∧ (L.contains (13 : Nat) = true ↔ L.contains (13 : Nat) = true) ∧ (L.contains (14 : Nat) = true ↔ L.contains (14 : Nat) = true) ∧ (L.contains (15 : Nat) = true ↔ L.contains (15 : Nat) = true) ∧ sm (crB p.f L o but) p.f.lo z = sm (crB p.f L o but) p.f.lo z_1 ∧ sm (crB p.f L o but) p.f.hi z = sm (crB p.f L o but) p.f.hi z_1 ∧ True)) ∧ (¬(↑z : Int) < (↑p.f.1 : Int) → (0 : Nat) < (1 : Nat) ∧ (0 : Nat) < (1 : Nat) ∧ sm (crB p.f L o but) p.f.lo z = suL p L o but ∧ sm (crB p.f L o but) p.f.hi z = suH p L o but ∧ True))) := by kernel_rfl
end Go.Proofs.Ytnbeifpcmjnlkaa

set_option maxRecDepth 100000
namespace Go.Proofs.Ytnbeifpcmjnlkaa
open Go Go.Lg
attribute [local irreducible] funS bodyH
theorem in_true (n a b : Int) : inG n a b := by
  rw [inG_vc]
  simp only [and_true, true_and, Bool.false_eq_true]
  exact ⟨fun h => ⟨fun x => ⟨h, x⟩, fun x => x.2⟩, fun h => ⟨False.elim, fun x => h x.1⟩⟩
theorem spa_true (a b : Int) : spaG a b := by
  rw [spaG_vc]
  simp only [rE, and_true, true_and, Nat.zero_lt_one]
theorem rPl_true (p : Pl) : rPlG p := by
  rw [rPlG_vc]
  simp only [rI, rE, tt3, tt4, tt5, tt13, tt14, and_true, true_and, Nat.zero_lt_one, and_self, implies_true, Int.toNat_natCast, Bool.false_eq_true, false_iff, Classical.not_not]
  refine ⟨fun h o => by have := o.k; omega, fun h => ⟨fun h o => by have := o.n; omega, fun h => ⟨⟨0, ⟨by omega, ⟨by omega, by omega, by omega⟩, fun j hj => by omega⟩, rfl⟩, fun z hz => ?_⟩⟩⟩
  obtain ⟨hz, hk, hj⟩ := hz
  refine ⟨fun hl => ⟨by omega, by omega, by omega, fun h o => ?_, fun h1 => ⟨by omega, fun h o => ?_, fun h2 => ⟨fun h o => (okFl_of o (by omega)).ne h, fun h3 => ⟨fun h o => ?_, fun h4 => ⟨fun h o => ?_, fun h5 => ⟨fun h o => ?_, fun h6 => ⟨by omega, z + 1, ⟨by omega, hk, fun j hj' => ?_⟩, by omega, by omega⟩⟩⟩⟩⟩⟩⟩, fun hl => ?_⟩
  · have := (okFl_of o (i := z) (by omega)).fr; omega
  · have := (okFl_of o (i := z) (by omega)).to; omega
  · have := (okFl_of o (i := z) (by omega)).gas; omega
  · have := (okFl_of o (i := z) (by omega)).gas; omega
  · have := (okFl_of o (i := z) (by omega)).gas; omega
  · by_cases e : j = z
    · subst e
      exact ⟨by omega, by omega, h3, by omega⟩
    · exact hj j (by omega)
  · simp only [true_iff]
    exact ⟨by omega, by omega, fun i hi => (hj i (by omega)).fr, fun i hi => (hj i (by omega)).to, fun i hi => (hj i (by omega)).ne, fun i hi => (hj i (by omega)).gas⟩
theorem its_true {n n' : Nat} {f f' : Nat → Int} (hn : n ≤ 100000) : itsG n n' f f' := by
  rw [itsG_vc]
  simp only [rI, rE, tt3, tt4, tt5, tt13, tt14, and_true, true_and, Nat.zero_lt_one, and_self, implies_true, Int.toNat_natCast, Nat.zero_add, Nat.add_zero, Nat.one_mul, Nat.mul_one, Classical.not_not, Bool.false_eq_true, false_iff]
  refine ⟨fun h o => h (by rw [o.1]), fun h => ⟨⟨0, ⟨by omega, fun i hi => by omega⟩, rfl⟩, fun z hz => ?_⟩⟩
  obtain ⟨hz, hg⟩ := hz
  refine ⟨fun hl => ⟨by omega, by omega, by omega, by omega, fun h o => h (o.2 z (by omega)), fun h => ⟨by omega, z + 1, ⟨by omega, fun i hi => ?_⟩, by omega, by omega⟩⟩, fun hl => ?_⟩
  · by_cases e : i = z
    · subst e; exact h
    · exact hg i (by omega)
  · simp only [true_iff]
    exact ⟨by omega, fun i hi => hg i (by omega)⟩
theorem sps_true {n n' : Nat} {f g f' g' : Nat → Int} (hn : n ≤ 100000) : spsG n n' f g f' g' := by
  rw [spsG_vc]
  simp only [rI, rE, tt3, tt4, tt5, tt13, tt14, and_true, true_and, Nat.zero_lt_one, and_self, implies_true, Int.toNat_natCast, Nat.zero_add, Nat.add_zero, Nat.one_mul, Nat.mul_one, Classical.not_not, Bool.false_eq_true, false_iff]
  refine ⟨fun h o => h (by rw [o.1]), fun h => ⟨⟨0, ⟨by omega, fun i hi => by omega⟩, rfl⟩, fun z hz => ?_⟩⟩
  obtain ⟨hz, hg⟩ := hz
  refine ⟨fun hl => ⟨by omega, by omega, by omega, by omega, fun h o => h (o.2 z (by omega)), fun h => ⟨by omega, z + 1, ⟨by omega, fun i hi => ?_⟩, by omega, by omega⟩⟩, fun hl => ?_⟩
  · by_cases e : i = z
    · subst e; exact h
    · exact hg i (by omega)
  · simp only [true_iff]
    exact ⟨by omega, fun i hi => hg i (by omega)⟩
theorem cell16 (P : Nat → Bool) {x : Nat} (h : x < 16) : cellD (isV P).cells x ↔ P x = true := by
  have : x = 0 ∨ x = 1 ∨ x = 2 ∨ x = 3 ∨ x = 4 ∨ x = 5 ∨ x = 6 ∨ x = 7 ∨ x = 8 ∨ x = 9 ∨ x = 10 ∨ x = 11 ∨ x = 12 ∨ x = 13 ∨ x = 14 ∨ x = 15 := by omega
  rcases this with rfl | rfl | rfl | rfl | rfl | rfl | rfl | rfl | rfl | rfl | rfl | rfl | rfl | rfl | rfl | rfl <;> exact Iff.rfl
theorem ct_s {L : List Nat} {z x : Nat} (hz : z < L.length) : (L.getD z 0 = x ∨ ¬ L.getD z 0 = x ∧ decP (dB (ct L z x))) ↔ ct L (z + 1) x = true := by
  have e : L.take (z + 1) = L.take z ++ [L.getD z 0] := by
    rw [List.take_add_one]
    simp [List.getD, hz]
  have e2 : decP (dB (ct L z x)) = (ct L z x = true) := rfl
  rw [e2]
  unfold ct
  rw [e]
  simp only [List.contains_eq_mem, decide_eq_true_eq, List.mem_append, List.mem_singleton]
  generalize L.getD z 0 = y
  constructor
  · rintro (h | h)
    · exact .inr h.symm
    · exact .inl h.2
  · intro h
    by_cases e : y = x
    · exact .inl e
    · exact .inr ⟨e, h.resolve_right fun h' => e h'.symm⟩
theorem ct_0 (L : List Nat) (x : Nat) : False ↔ ct L 0 x = true := by simp [ct]
theorem ct_e {L : List Nat} {z : Nat} (h : z = L.length) (x : Nat) : ct L z x = true ↔ L.contains x = true := by unfold ct; rw [h, List.take_length]
theorem sum_true {p : Pl} {L : List Nat} {o : Bool} {but : Int} (hp : okG p) (hL : L.length ≤ 1000) (hy : ∀ y ∈ L, y < 16) : sumG p L o but := by
  rw [sumG_vc]
  simp only [rI, rE, tt3, tt4, tt5, tt13, tt14, and_true, true_and, Nat.zero_lt_one, and_self, implies_true, Int.toNat_natCast, Nat.zero_add, Nat.add_zero, Nat.one_mul, Nat.mul_one, Classical.not_not, Bool.false_eq_true]
  have hn := hp.n
  have C0 := ct_0 L
  refine ⟨⟨0, by omega, rfl, C0 0, C0 1, C0 2, C0 3, C0 4, C0 5, C0 6, C0 7, C0 8, C0 9, C0 10, C0 11, C0 12, C0 13, C0 14, C0 15⟩, fun z hz => ⟨fun hl => ?_, fun hl => ?_⟩⟩
  · have hz' : z < L.length := by omega
    have hx : L.getD z 0 < 16 := by
      have : L.getD z 0 = L[z] := by simp [List.getD, hz']
      rw [this]
      exact hy _ (List.getElem_mem hz')
    have C := fun x => ct_s (L := L) (z := z) (x := x) hz'
    exact ⟨by omega, by omega, by omega, by omega, hx, by omega, z + 1, by omega, by omega, by omega, C 0, C 1, C 2, C 3, C 4, C 5, C 6, C 7, C 8, C 9, C 10, C 11, C 12, C 13, C 14, C 15⟩
  · have ez : z = L.length := by omega
    have C := ct_e (L := L) ez
    refine ⟨⟨0, by omega, rfl, C 0, C 1, C 2, C 3, C 4, C 5, C 6, C 7, C 8, C 9, C 10, C 11, C 12, C 13, C 14, C 15, rfl, rfl⟩, fun i hi => ⟨fun hl => ?_, fun hl => ?_⟩⟩
    · have hi' : i < p.f.n := by omega
      have q1 := hp.fr i hi'
      have q2 := hp.to i hi'
      have q3 := hp.lo i hi'
      have q4 := hp.hi i hi'
      have l1 := sm_le (p := crB p.f L o but) hp.lo i hi
      have l2 := sm_le (p := crB p.f L o but) hp.hi i hi
      have D1 := cell16 (fun x => L.contains x) (x := (p.f.fr i).toNat) (by omega)
      have D2 := cell16 (fun x => L.contains x) (x := (p.f.to i).toNat) (by omega)
      have no : ∀ {q : Prop}, ¬ crB p.f L o but i = true → ((-9223372036854775808 : Int) ≤ (i : Int) + 1 ∧ (i : Int) + 1 ≤ 9223372036854775807) ∧ ∃ z_1 : Nat, z_1 ≤ p.f.n ∧ p.f.n - z_1 < p.f.n - i ∧ (i : Int) + 1 = z_1 ∧ sm (crB p.f L o but) p.f.lo i = sm (crB p.f L o but) p.f.lo z_1 ∧ sm (crB p.f L o but) p.f.hi i = sm (crB p.f L o but) p.f.hi z_1 := fun {_} h => ⟨by omega, i + 1, by omega, by omega, by omega, (sm_n h).symm, (sm_n h).symm⟩
      refine ⟨by omega, by omega, fun hb => ⟨by omega, by omega, by omega, by omega, by omega, by omega, fun hne => ⟨by omega, by omega, by omega, fun ho => ?_, fun ho => no (q := True) ?_⟩, fun he => no (q := True) ?_⟩, fun hb => no (q := True) ?_⟩
      · have h : crB p.f L o but i = true := by
          rw [D1, D2] at hne
          rw [D1] at ho
          unfold crB
          revert hne ho
          simp only [hb, decide_false, Bool.not_false, Bool.true_and]
          cases L.contains (p.f.fr i).toNat <;> cases L.contains (p.f.to i).toNat <;> cases o <;> simp
        exact ⟨by omega, by omega, by omega, i + 1, by omega, by omega, by omega, (sm_y h).symm, (sm_y h).symm⟩
      · rw [D1] at ho
        unfold crB
        revert ho
        cases L.contains (p.f.fr i).toNat <;> cases o <;> simp
      · rw [D1, D2] at he
        unfold crB
        revert he
        cases L.contains (p.f.fr i).toNat <;> cases L.contains (p.f.to i).toNat <;> simp
      · unfold crB
        simp [hb]
    · have : i = p.f.n := by omega
      subst this
      exact ⟨rfl, rfl⟩
end Go.Proofs.Ytnbeifpcmjnlkaa
