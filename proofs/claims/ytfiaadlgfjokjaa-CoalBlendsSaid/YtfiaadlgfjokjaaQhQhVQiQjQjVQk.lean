import Derived.Test.YtfiaadlgfjokjaaQeQfQfVQg
set_option linter.unusedVariables false
set_option linter.unusedSimpArgs false
namespace Go.Proofs.Ytfiaadlgfjokjaa
open Go Go.Lg
attribute [local irreducible] bodyH funS
structure Gr where
  co : Int
  gv : Int
def Gr.sv (g : Gr) : SV := .agg [i6 g.co, i6 g.gv]
def grOf : SV → Gr
  | .agg [.int _ a, .int _ b] => ⟨a, b⟩
  | _ => ⟨0, 0⟩
def grL (n : Nat) (f : Nat → Gr) : SV := .lst 2 n fun i => (f i).sv
def spT (w : Nat) (c : Co) : Tw := match w with
  | 0 => ⟨c.g0, c.g1⟩
  | 1 => ⟨c.t0, c.t1⟩
  | 2 => ⟨c.s0, c.s1⟩
  | _ => ⟨c.k0, c.k1⟩
def cmpI (x y : Int) : Int := if x < y then -1 else if y < x then 1 else 0
def nanC : Ctr := ⟨71, fun args k => match args with
  | [.int .i64 a] => k (.bool false)
  | _ => False⟩
noncomputable def nanG (a : Int) : Prop := funH Try.prog (ctrs []) noX (ictrs []) noL noL 71 [i6 a] (.bool false)
def cpC : Ctr := ⟨58, fun args k => match args with
  | [.int .i64 a, .int .i64 b] => k (i6 (cmpI a b))
  | _ => False⟩
noncomputable def cpG (a b : Int) : Prop := funH Try.prog (ctrs [nanC]) noX (ictrs []) noL noL 58 [i6 a, i6 b] (i6 (cmpI a b))
def cmW (w : Nat) (a b : Gr) : Int := match w with
  | 0 => cmpI a.gv b.gv
  | _ => cmpI b.gv a.gv
def coC : Ctr := ⟨57, fun args k => match args with
  | [.agg [.int .i64 a, .int .i64 b], .agg [.int .i64 c, .int .i64 d]] => k (i6 (cmW 0 ⟨a, b⟩ ⟨c, d⟩))
  | _ => False⟩
def coC' : Ctr := ⟨59, fun args k => match args with
  | [.agg [.int .i64 a, .int .i64 b], .agg [.int .i64 c, .int .i64 d]] => k (i6 (cmW 1 ⟨a, b⟩ ⟨c, d⟩))
  | _ => False⟩
noncomputable def coG (a b : Gr) : Prop := funH Try.prog (ctrs [cpC]) noX (ictrs []) noL noL 57 [a.sv, b.sv] (i6 (cmW 0 a b))
noncomputable def coG' (a b : Gr) : Prop := funH Try.prog (ctrs [cpC]) noX (ictrs []) noL noL 59 [a.sv, b.sv] (i6 (cmW 1 a b))
def swp (f : Nat → Gr) (j : Nat) : Nat → Gr := fun k => if k = j - 1 then f j else if k = j then f (j - 1) else f k
open Classical in
noncomputable def inF (w : Nat) : (Nat → Gr) → Nat → (Nat → Gr)
  | f, 0 => f
  | f, j + 1 => if cmW w (f (j + 1)) (f j) < 0 then inF w (swp f (j + 1)) j else f
noncomputable def stF (w : Nat) (g : Nat → Gr) : Nat → (Nat → Gr)
  | 0 => g
  | i + 1 => inF w (stF w g i) i
noncomputable def rF1 (r : Nat) : FS → XS → (Nat × (Nat → Gr) → Prop) → Prop := fun t X k => match sget 53 t 8 with
  | .int _ a => (match X.row r with
    | some R => k (a.toNat, fun i => grOf (R.f i))
    | none => False)
  | _ => False
theorem rF1_ok (r : Nat) (t : FS) (X : XS) (k : Nat × (Nat → Gr) → Prop) (h : rF1 r t X k) : ∃ s, k s := by
  unfold rF1 at h
  split at h
  · split at h
    · exact ⟨_, h⟩
    · exact h.elim
  · exact h.elim
noncomputable def rF2 (r : Nat) : FS → XS → (Nat × Nat × (Nat → Gr) → Prop) → Prop := fun t X k => match sget 53 t 8 with
  | .int _ a => (match sget 53 t 9 with
    | .int _ b => (match X.row r with
      | some R => k (a.toNat, b.toNat, fun i => grOf (R.f i))
      | none => False)
    | _ => False)
  | _ => False
theorem rF2_ok (r : Nat) (t : FS) (X : XS) (k : Nat × Nat × (Nat → Gr) → Prop) (h : rF2 r t X k) : ∃ s, k s := by
  unfold rF2 at h
  split at h
  · split at h
    · split at h
      · exact ⟨_, h⟩
      · exact h.elim
    · exact h.elim
  · exact h.elim
noncomputable def rN8 : FS → XS → (Nat → Prop) → Prop := fun t _ k => match sget 53 t 8 with
  | .int _ a => k a.toNat
  | _ => False
noncomputable def rN9 : FS → XS → (Nat → Prop) → Prop := fun t _ k => match sget 53 t 8 with
  | .int _ a => (match sget 53 t 9 with
    | .int _ b => k (a.toNat * 64 + b.toNat)
    | _ => False)
  | _ => False
theorem rN9_ok (t : FS) (X : XS) (k : Nat → Prop) (h : rN9 t X k) : ∃ s, k s := by
  unfold rN9 at h
  split at h
  · split at h
    · exact ⟨_, h⟩
    · exact h.elim
  · exact h.elim
structure in1 (q w : Nat) (g : Nat → Gr) (x : Nat × (Nat → Gr)) : Prop where
  a : 1 ≤ x.1
  b : x.1 ≤ max 1 q
  f : ∀ k, k < q → x.2 k = stF w g x.1 k
structure in2 (q w : Nat) (g : Nat → Gr) (x : Nat × Nat × (Nat → Gr)) : Prop where
  a : 1 ≤ x.1
  b : x.1 < q
  c : x.2.1 ≤ x.1
  f : ∀ k, k < q → inF w x.2.2 x.2.1 k = stF w g (x.1 + 1) k
structure in3 (q w : Nat) (g : Nat → Gr) (x : Nat × Nat × (Nat → Gr)) : Prop where
  a : 1 ≤ x.1
  b : x.1 < q
  c : x.2.1 ≤ x.1
  d : 1 ≤ x.2.1
  f : ∀ k, k < q → inF w x.2.2 (x.2.1 - 1) k = stF w g (x.1 + 1) k
noncomputable def insF (r n w : Nat) (l : List (Nat × SV)) : FS := mkF 53 ([(0, .sl r 0 n), (1, i6 0), (2, i6 n), (3, fv (57 + 2 * w))] ++ l)
noncomputable def insL (r n w : Nat) (g : Nat → Gr) (X : (Nat → Gr) → XS) : Nat → Option HSpec :=
  twoL 0 { toLSpec := { σ := Nat × (Nat → Gr), inv := in1 n w g, μ := fun x => n - x.1, nr := 2, ms := fun _ _ => [], t := fun x => insF r n w [(8, i6 x.1)], X := fun x => X x.2, rd := rF1 r, rdOK := rF1_ok r } } <|
  twoL 2 { toLSpec := { σ := Nat × Nat × (Nat → Gr), inv := in2 n w g, μ := fun x => x.2.1, nr := 2, ms := fun _ _ => [], t := fun x => insF r n w [(8, i6 x.1), (9, i6 x.2.1)], X := fun x => X x.2.2, rd := rF2 r, rdOK := rF2_ok r }, par := some ⟨rN8, rdI⟩, kinv := fun y x => x.1 = y } <|
  oneL 1006 { toLSpec := { σ := Nat × Nat × (Nat → Gr), inv := in3 n w g, μ := fun _ => 0, nr := 2, ms := fun _ _ => [], t := fun x => insF r n w [(8, i6 x.1), (9, i6 x.2.1)], X := fun x => X x.2.2, rd := rF2 r, rdOK := rF2_ok r }, D := [(9, r), (13, r), (15, r), (17, r)], par := some ⟨rN9, rN9_ok⟩, kinv := fun y x => x.1 * 64 + x.2.1 = y }
noncomputable def csS : CSpec := ctrs [coC, coC']
noncomputable def soX (r n w : Nat) (g : Nat → Gr) (X : (Nat → Gr) → XS) : CX := inl Try.prog csS none (ictrs []) 56 noL noL <| inl Try.prog csS none (ictrs []) 70 (twoL 0 (unrH 1) (oneL 2 (unrH 1))) noL <| inl Try.prog csS none (ictrs []) 72 (insL r n w g X) noL noX
def row0 : List SV → Bool
  | .sl 0 _ _ :: _ => true
  | _ => false
noncomputable def altX (a b : CX) : CX := fun g => match a g with
  | some h1 => (match b g with
    | some h2 => some fun args X q k => (match row0 args with
      | true => h1 args X q k
      | false => h2 args X q k)
    | none => none)
  | none => none
theorem altX_sound {Γ : Ghost} {γ : GS → Γ.S} {a b : CX} (ha : SoundXH Try.prog Γ γ a) (hb : SoundXH Try.prog Γ γ b) : SoundXH Try.prog Γ γ (altX a b) := by
  intro g h hh args X q k hX hk
  unfold altX at hh
  split at hh
  · rename_i h1 e1
    split at hh
    · rename_i h2 e2
      cases hh
      split at hk
      · exact ha g h1 e1 args X q k hX hk
      · exact hb g h2 e2 args X q k hX hk
    · cases hh
  · cases hh
def gA (w : Nat) (C : Cl) (i : Nat) : Gr := ⟨i, (spT w (C.f i)).lo⟩
def gB (w : Nat) (C : Cl) (i : Nat) : Gr := ⟨i, (spT w (C.f i)).hi⟩
noncomputable def stA (w : Nat) (C : Cl) : Nat → Gr := stF 0 (gA w C) C.n
noncomputable def stB (w : Nat) (C : Cl) : Nat → Gr := stF 1 (gB w C) C.n
noncomputable def grX (w : Nat) (C : Cl) : CX := altX (soX 0 C.n 0 (gA w C) fun f => mkX [rw' 2 C.n fun i => (f i).sv, rw' 2 C.n fun i => (gB w C i).sv]) (soX 1 C.n 1 (gB w C) fun f => mkX [rw' 2 C.n fun i => (stA w C i).sv, rw' 2 C.n fun i => (f i).sv])
def w0C : Ctr := ⟨60, fun args k => match args with
  | [.agg [.int .i64 a, .int .i64 b, .int .i64 c, .int .i64 d, .int .i64 e, .int .i64 f, .int .i64 g, .int .i64 h]] => k (spT 0 ⟨a, b, c, d, e, f, g, h⟩).sv
  | _ => False⟩
def w1C : Ctr := ⟨61, fun args k => match args with
  | [.agg [.int .i64 a, .int .i64 b, .int .i64 c, .int .i64 d, .int .i64 e, .int .i64 f, .int .i64 g, .int .i64 h]] => k (spT 1 ⟨a, b, c, d, e, f, g, h⟩).sv
  | _ => False⟩
def w2C : Ctr := ⟨62, fun args k => match args with
  | [.agg [.int .i64 a, .int .i64 b, .int .i64 c, .int .i64 d, .int .i64 e, .int .i64 f, .int .i64 g, .int .i64 h]] => k (spT 2 ⟨a, b, c, d, e, f, g, h⟩).sv
  | _ => False⟩
def w3C : Ctr := ⟨63, fun args k => match args with
  | [.agg [.int .i64 a, .int .i64 b, .int .i64 c, .int .i64 d, .int .i64 e, .int .i64 f, .int .i64 g, .int .i64 h]] => k (spT 3 ⟨a, b, c, d, e, f, g, h⟩).sv
  | _ => False⟩
noncomputable def csW : CSpec := ctrs [w0C, w1C, w2C, w3C]
noncomputable def grR (w : Nat) (C : Cl) : SV := .tup [grL C.n (stA w C), grL C.n (stB w C)]
noncomputable def grG (w : Nat) (C : Cl) : Prop := funN Try.prog csW (grX w C) (ictrs [])
  (oneL 0 { toLSpec := { σ := Nat, inv := fun k => k ≤ C.n, μ := fun k => C.n - k, nr := 0, ms := (fun t _ => [match sget 40 t 4 with
                   | .sl r _ _ => some r
                   | _ => none, match sget 40 t 5 with
                   | .sl r _ _ => some r
                   | _ => none]), t := fun k => mkF 40 [(1, fv (60 + w)), (4, .sl 0 0 k), (5, .sl 1 0 k), (9, C.sv), (10, i6 C.n), (11, i6 k)], X := fun k => mkX [rw' 2 k fun i => (gA w C i).sv, rw' 2 k fun i => (gB w C i).sv], rd := fun _ _ k => ∃ z, k z, rdOK := fun _ _ _ h => h } }) noL
  41 [C.sv, fv (60 + w)] (grR w C)
noncomputable def gr0 (C : Cl) : Prop := grG 0 C
noncomputable def gr1 (C : Cl) : Prop := grG 1 C
noncomputable def gr2 (C : Cl) : Prop := grG 2 C
noncomputable def gr3 (C : Cl) : Prop := grG 3 C
end Go.Proofs.Ytfiaadlgfjokjaa

set_option maxRecDepth 100000
namespace Go.Proofs.Ytfiaadlgfjokjaa
open Go Go.Lg
theorem nanG_vc (a:Int):nanG a =
((¬a=a↔false=true)∧True):=by kernel_rfl
theorem cpG_vc (a:Int) (b:Int):cpG a b =
((a<b→(-1:Int)=cmpI a b∧True) ∧
 (¬a<b→(b<a→(1:Int)=cmpI a b∧True)∧(¬b<a→(0:Int)=cmpI a b∧True))):=by kernel_rfl
theorem coG_vc (a:Gr) (b:Gr):coG a b =
((0:Nat)<(1:Nat)∧(0:Nat)<(1:Nat)∧cmpI a.2 b.2=cmW (0:Nat) a b∧True):=by kernel_rfl
theorem coG'_vc (a:Gr) (b:Gr):coG' a b =
((0:Nat)<(1:Nat)∧(0:Nat)<(1:Nat)∧cmpI b.2 a.2=cmW (1:Nat) a b∧True):=by kernel_rfl
def grT (w:Nat) (C:Cl):Prop :=
((∃ (z:Nat),z≤C.1∧rE (Value.func (Fn.func ((60:Nat)+w)) #[] #[])∧rE (0:Nat)∧(0:Nat)=z∧rE (0:Nat)∧(0:Nat)=z∧C.1=C.1∧(∀ (i:Nat),i<C.1→rE ((C.f i).sv.den)∧True∧True∧True∧True∧True∧True∧True∧True∧True)∧rE (↑C.1:Int)∧(0:Int)=(↑z:Int)∧z=(0:Nat)∧z=(0:Nat)∧True)∧∀ (z:Nat),z≤C.1→((↑z:Int)<(↑C.1:Int)→(0:Int)≤(↑z:Int)∧(↑z:Int)<(↑C.1:Int)∧(0:Nat)<(1:Nat)∧(0:Nat)<(1:Nat)∧True∧(∀ (i:Nat),i<(1:Nat)→rE true)∧rE (0:Nat)∧z=z∧(∀ (i:Nat),rE true)∧(z+(1:Nat))*(16:Nat)≤(140737488355328:Nat)∧z+(1:Nat)≤(4611686018427387904:Nat)∧(0:Nat)<(1:Nat)∧True∧(∀ (i:Nat),i<(1:Nat)→rE true)∧rE (0:Nat)∧z=z∧(∀ (i:Nat),rE true)∧(z+(1:Nat))*(16:Nat)≤(140737488355328:Nat)∧z+(1:Nat) ≤
(4611686018427387904:Nat)∧rI ((↑z:Int)+(1:Int))∧∃ (z_1:Nat),z_1≤C.1∧C.1 - z_1<C.1 - z∧rE (Value.func (Fn.func ((60:Nat)+w)) #[] #[])∧rE (0:Nat)∧z+(1:Nat)=z_1∧rE (0:Nat)∧z+(1:Nat)=z_1∧C.1=C.1∧(∀ (i:Nat),i<C.1→rE ((C.f i).sv.den)∧True∧True∧True∧True∧True∧True∧True∧True∧True)∧rE (↑C.1:Int)∧(↑z:Int)+(1:Int)=(↑z_1:Int)∧z_1=z+(1:Nat)∧(∀ (i:Nat),i<z_1→rE (2:Nat)∧(if i<z then (↑i:Int) else (↑z:Int))=(↑i:Int)∧(if i<z then (spT w (C.f i)).1 else (spT w (C.f (↑z:Int).toNat)).1)=(spT w (C.f i)).1∧True)∧z_1=z+(1:Nat)∧(∀ (i:Nat),i<z_1→rE (2:Nat)∧(if i<z then (↑i:Int) else (↑z:Int))=(↑i:Int)∧(if i<z then (spT w (C.f i)).2 else (spT w (C.f (↑z:Int).toNat)).2)=(spT w (C.f i)).2∧True)∧True)∧(¬(↑z:Int)<(↑C.1:Int)→((20:Int)≤(↑z:Int)→rI ((0:Int) +
(1:Int))∧(in1 C.n (0:Nat) (gA w C) (((0:Int)+(1:Int)).toNat,fun i=>grOf (gA w C i).sv)∧rE (0:Nat)∧z=C.1∧rE (0:Int)∧(20:Int)=(↑C.1:Int)∧Value.func (Fn.func (57:Nat)) #[] #[]=Value.func (Fn.func ((57:Nat)+(2:Nat)*(0:Nat))) #[] #[]∧(0:Int)+(1:Int)=(↑(1:Nat):Int)∧C.1=z∧(∀ (i:Nat),i<C.1→rE (2:Nat)∧rE (↑i:Int)∧rE ((spT w (C.f i)).1)∧True)∧C.1=z∧(∀ (i:Nat),i<C.1→rE (2:Nat)∧rE (↑i:Int)∧rE ((spT w (C.f i)).2)∧True)∧True)∧∀ (z:Nat × (Nat→Gr)),in1 C.n (0:Nat) (gA w C) z→((↑z.1:Int)<(↑C.1:Int)→((in2 C.n (0:Nat) (gA w C) ((↑z.fst:Int).toNat,(↑z.fst:Int).toNat,fun i=>grOf (z.snd i).sv)∧rE ((↑z.1:Int).toNat))∧rE (0:Nat)∧C.1=C.1∧rE (0:Int)∧rE (↑C.1:Int)∧rE (Value.func (Fn.func ((57:Nat)+(2:Nat)*(0:Nat))) #[] #[]) ∧
(↑z.1:Int)=(↑(↑z.1:Int).toNat:Int)∧(↑z.1:Int)=(↑(↑z.1:Int).toNat:Int)∧C.1=C.1∧(∀ (i:Nat),i<C.1→rE (2:Nat)∧rE ((z.snd i).1)∧rE ((z.snd i).2)∧True)∧C.1=C.1∧(∀ (i:Nat),i<C.1→rE (2:Nat)∧rE (↑i:Int)∧rE ((spT w (C.f i)).2)∧True)∧True)∧∀ (z_1:Nat × Nat × (Nat→Gr)),in2 C.n (0:Nat) (gA w C) z_1∧z_1.1=(↑z.1:Int).toNat→((0:Int)<(↑z_1.snd.1:Int)→(0:Int)≤(↑z_1.snd.1:Int)∧(↑z_1.snd.1:Int)<(↑C.1:Int)∧(0:Nat)+(↑z_1.snd.1:Int).toNat<C.1∧rI ((↑z_1.snd.1:Int) - (1:Int))∧(0:Int)≤(↑z_1.snd.1:Int) - (1:Int)∧(↑z_1.snd.1:Int) - (1:Int)<(↑C.1:Int)∧(0:Nat)+((↑z_1.snd.1:Int) - (1:Int)).toNat<C.1∧(cmW (0:Nat) (Gr.mk (z_1.snd.snd ((0:Nat)+(↑z_1.snd.fst:Int).toNat)).co (z_1.snd.snd ((0:Nat)+(↑z_1.snd.fst:Int).toNat)).gv) (Gr.mk (z_1.snd.snd ((0:Nat)
+ ((↑z_1.snd.fst:Int) - (1:Int)).toNat)).co (z_1.snd.snd ((0:Nat)+((↑z_1.snd.fst:Int) - (1:Int)).toNat)).gv)<(0:Int)→(True∧True∧True∧True∧True∧True∧True∧True∧True∧True∧rI ((↑z_1.snd.1:Int) - (1:Int))∧True∧True∧True∧True∧True∧True∧rI ((↑z_1.snd.1:Int) - (1:Int))∧True∧True∧(0:Int)≤(↑z_1.snd.1:Int) - (1:Int)∧(↑z_1.snd.1:Int) - (1:Int)<(↑C.1:Int)∧True∧True∧(0:Nat)+((↑z_1.snd.1:Int) - (1:Int)).toNat<C.1∧True∧True∧True∧True∧(True∧True∧(0:Int)≤(↑z_1.snd.1:Int)∧(↑z_1.snd.1:Int)<(↑C.1:Int)∧True∧True∧(0:Nat)+(↑z_1.snd.1:Int).toNat<C.1∧True∧True∧(0:Int)≤(↑z_1.snd.1:Int)∧(↑z_1.snd.1:Int)<(↑C.1:Int)∧True∧True∧(0:Nat)+(2:Nat)≤(2:Nat)∧(0:Nat)+(↑z_1.snd.1:Int).toNat<C.1∧(∀ (i':Nat),rE true)∧True∧True∧(0 :
Int)≤(↑z_1.snd.1:Int) - (1:Int)∧(↑z_1.snd.1:Int) - (1:Int)<(↑C.1:Int)∧True∧True∧(0:Nat)+(2:Nat)≤(2:Nat)∧(0:Nat)+((↑z_1.snd.1:Int) - (1:Int)).toNat<C.1∧(∀ (i':Nat),rE true)∧(in3 C.n (0:Nat) (gA w C) ((↑z_1.fst:Int).toNat,(↑z_1.snd.fst:Int).toNat,fun i=>grOf (putR (putR (fun i=>(z_1.snd.snd i).sv) ((0:Nat)+(↑z_1.snd.fst:Int).toNat) (0:Nat) (SV.agg [i6 (z_1.snd.snd ((0:Nat)+((↑z_1.snd.fst:Int) - (1:Int)).toNat)).co,i6 (z_1.snd.snd ((0:Nat)+((↑z_1.snd.fst:Int) - (1:Int)).toNat)).gv])) ((0:Nat)+((↑z_1.snd.fst:Int) - (1:Int)).toNat) (0:Nat) (SV.agg [i6 (z_1.snd.snd ((0:Nat)+(↑z_1.snd.fst:Int).toNat)).co,i6 (z_1.snd.snd ((0:Nat)+(↑z_1.snd.fst:Int).toNat)).gv]) i))∧rE ((↑z_1.1:Int).toNat*(64:Nat)+(↑z_1.snd.1:Int).toNat))∧rE (0:Nat)∧C.1=C.1∧rE (0:Int) ∧
rE (↑C.1:Int)∧rE (Value.func (Fn.func ((57:Nat)+(2:Nat)*(0:Nat))) #[] #[])∧(↑z_1.1:Int)=(↑(↑z_1.1:Int).toNat:Int)∧(↑z_1.snd.1:Int)=(↑(↑z_1.snd.1:Int).toNat:Int)∧C.1=C.1∧(∀ (i:Nat),i<C.1→rE (2:Nat)∧((if i=(0:Nat)+((↑z_1.snd.1:Int) - (1:Int)).toNat then (z_1.snd.snd ((0:Nat)+(↑z_1.snd.fst:Int).toNat)).1 else if i=(0:Nat)+(↑z_1.snd.1:Int).toNat then (z_1.snd.snd ((0:Nat)+((↑z_1.snd.fst:Int) - (1:Int)).toNat)).1 else (z_1.snd.snd i).1)=if i=(0:Nat)+((↑z_1.snd.1:Int) - (1:Int)).toNat then (z_1.snd.snd ((0:Nat)+(↑z_1.snd.fst:Int).toNat)).1 else if i=(0:Nat)+(↑z_1.snd.1:Int).toNat then (z_1.snd.snd ((0:Nat)+((↑z_1.snd.fst:Int) - (1:Int)).toNat)).1 else (z_1.snd.snd i).1)∧((if i=(0:Nat)+((↑z_1.snd.1:Int) - (1:Int)).toNat then (z_1.snd.snd ((0:Nat)+(↑z_1.snd.fst :
Int).toNat)).2 else if i=(0:Nat)+(↑z_1.snd.1:Int).toNat then (z_1.snd.snd ((0:Nat)+((↑z_1.snd.fst:Int) - (1:Int)).toNat)).2 else (z_1.snd.snd i).2)=if i=(0:Nat)+((↑z_1.snd.1:Int) - (1:Int)).toNat then (z_1.snd.snd ((0:Nat)+(↑z_1.snd.fst:Int).toNat)).2 else if i=(0:Nat)+(↑z_1.snd.1:Int).toNat then (z_1.snd.snd ((0:Nat)+((↑z_1.snd.fst:Int) - (1:Int)).toNat)).2 else (z_1.snd.snd i).2)∧True)∧C.1=C.1∧(∀ (i:Nat),i<C.1→rE (2:Nat)∧rE (↑i:Int)∧rE ((spT w (C.f i)).2)∧True)∧True)∧True)∧∀ (z_2:Nat × Nat × (Nat→Gr)),in3 C.n (0:Nat) (gA w C) z_2∧z_2.1*(64:Nat)+z_2.snd.1=(↑z_1.1:Int).toNat*(64:Nat)+(↑z_1.snd.1:Int).toNat→rI ((↑z_2.snd.1:Int) - (1:Int))∧(in2 C.n (0:Nat) (gA w C) ((↑z_2.fst:Int).toNat,((↑z_2.snd.fst:Int) - (1:Int)).toNat,fun i=>grOf (z_2.snd.snd i).sv)
∧ (↑z_2.1:Int).toNat=(↑z.1:Int).toNat)∧((↑z_2.snd.1:Int) - (1:Int)).toNat<z_1.snd.1∧rE (0:Nat)∧C.1=C.1∧rE (0:Int)∧rE (↑C.1:Int)∧rE (Value.func (Fn.func ((57:Nat)+(2:Nat)*(0:Nat))) #[] #[])∧(↑z_2.1:Int)=(↑(↑z_2.1:Int).toNat:Int)∧(↑z_2.snd.1:Int) - (1:Int)=(↑((↑z_2.snd.1:Int) - (1:Int)).toNat:Int)∧C.1=C.1∧(∀ (i:Nat),i<C.1→rE (2:Nat)∧rE ((z_2.snd.snd i).1)∧rE ((z_2.snd.snd i).2)∧True)∧C.1=C.1∧(∀ (i:Nat),i<C.1→rE (2:Nat)∧rE (↑i:Int)∧rE ((spT w (C.f i)).2)∧True)∧True)∧(¬cmW (0:Nat) (Gr.mk (z_1.snd.snd ((0:Nat)+(↑z_1.snd.fst:Int).toNat)).co (z_1.snd.snd ((0:Nat)+(↑z_1.snd.fst:Int).toNat)).gv) (Gr.mk (z_1.snd.snd ((0:Nat)+((↑z_1.snd.fst:Int) - (1:Int)).toNat)).co (z_1.snd.snd ((0:Nat)+((↑z_1.snd.fst:Int) - (1:Int)).toNat)).gv)<(0:Int)→rI ((↑z_1.1:Int)
+ (1:Int))∧in1 C.n (0:Nat) (gA w C) (((↑z_1.fst:Int)+(1:Int)).toNat,fun i=>grOf (z_1.snd.snd i).sv)∧C.1 - ((↑z_1.1:Int)+(1:Int)).toNat<C.1 - z.1∧rE (0:Nat)∧C.1=C.1∧rE (0:Int)∧rE (↑C.1:Int)∧rE (Value.func (Fn.func ((57:Nat)+(2:Nat)*(0:Nat))) #[] #[])∧(↑z_1.1:Int)+(1:Int)=(↑((↑z_1.1:Int)+(1:Int)).toNat:Int)∧C.1=C.1∧(∀ (i:Nat),i<C.1→rE (2:Nat)∧rE ((z_1.snd.snd i).1)∧rE ((z_1.snd.snd i).2)∧True)∧C.1=C.1∧(∀ (i:Nat),i<C.1→rE (2:Nat)∧rE (↑i:Int)∧rE ((spT w (C.f i)).2)∧True)∧True))∧(¬(0:Int)<(↑z_1.snd.1:Int)→rI ((↑z_1.1:Int)+(1:Int))∧in1 C.n (0:Nat) (gA w C) (((↑z_1.fst:Int)+(1:Int)).toNat,fun i=>grOf (z_1.snd.snd i).sv)∧C.1 - ((↑z_1.1:Int)+(1:Int)).toNat<C.1 - z.1∧rE (0:Nat)∧C.1=C.1∧rE (0:Int)∧rE (↑C.1:Int)∧rE
(Value.func (Fn.func ((57:Nat)+(2:Nat)*(0:Nat))) #[] #[])∧(↑z_1.1:Int)+(1:Int)=(↑((↑z_1.1:Int)+(1:Int)).toNat:Int)∧C.1=C.1∧(∀ (i:Nat),i<C.1→rE (2:Nat)∧rE ((z_1.snd.snd i).1)∧rE ((z_1.snd.snd i).2)∧True)∧C.1=C.1∧(∀ (i:Nat),i<C.1→rE (2:Nat)∧rE (↑i:Int)∧rE ((spT w (C.f i)).2)∧True)∧True))∧(¬(↑z.1:Int)<(↑C.1:Int)→rI ((20:Int)+(20:Int))∧False))∧(¬(20:Int)≤(↑z:Int)→rI ((0:Int)+(1:Int))∧(in1 C.n (0:Nat) (gA w C) (((0:Int)+(1:Int)).toNat,fun i=>grOf (gA w C i).sv)∧rE (0:Nat)∧z=C.1∧rE (0:Int)∧(↑z:Int)=(↑C.1:Int)∧Value.func (Fn.func (57:Nat)) #[] #[]=Value.func (Fn.func ((57:Nat)+(2:Nat)*(0:Nat))) #[] #[]∧(0:Int)+(1:Int)=(↑(1:Nat):Int)∧C.1=z∧(∀ (i:Nat),i<C.1→rE (2:Nat)∧rE (↑i:Int)∧rE ((spT w (C.f i)).1) ∧
True)∧C.1=z∧(∀ (i:Nat),i<C.1→rE (2:Nat)∧rE (↑i:Int)∧rE ((spT w (C.f i)).2)∧True)∧True)∧∀ (z_1:Nat × (Nat→Gr)),in1 C.n (0:Nat) (gA w C) z_1→((↑z_1.1:Int)<(↑C.1:Int)→((in2 C.n (0:Nat) (gA w C) ((↑z_1.fst:Int).toNat,(↑z_1.fst:Int).toNat,fun i=>grOf (z_1.snd i).sv)∧rE ((↑z_1.1:Int).toNat))∧rE (0:Nat)∧C.1=C.1∧rE (0:Int)∧rE (↑C.1:Int)∧rE (Value.func (Fn.func ((57:Nat)+(2:Nat)*(0:Nat))) #[] #[])∧(↑z_1.1:Int)=(↑(↑z_1.1:Int).toNat:Int)∧(↑z_1.1:Int)=(↑(↑z_1.1:Int).toNat:Int)∧C.1=C.1∧(∀ (i:Nat),i<C.1→rE (2:Nat)∧rE ((z_1.snd i).1)∧rE ((z_1.snd i).2)∧True)∧C.1=C.1∧(∀ (i:Nat),i<C.1→rE (2:Nat)∧rE (↑i:Int)∧rE ((spT w (C.f i)).2)∧True)∧True)∧∀ (z:Nat × Nat × (Nat→Gr)),in2 C.n (0:Nat) (gA w C) z∧z.1=(↑z_1.1:Int).toNat→((0:Int) <
(↑z.snd.1:Int)→(0:Int)≤(↑z.snd.1:Int)∧(↑z.snd.1:Int)<(↑C.1:Int)∧(0:Nat)+(↑z.snd.1:Int).toNat<C.1∧rI ((↑z.snd.1:Int) - (1:Int))∧(0:Int)≤(↑z.snd.1:Int) - (1:Int)∧(↑z.snd.1:Int) - (1:Int)<(↑C.1:Int)∧(0:Nat)+((↑z.snd.1:Int) - (1:Int)).toNat<C.1∧(cmW (0:Nat) (Gr.mk (z.snd.snd ((0:Nat)+(↑z.snd.fst:Int).toNat)).co (z.snd.snd ((0:Nat)+(↑z.snd.fst:Int).toNat)).gv) (Gr.mk (z.snd.snd ((0:Nat)+((↑z.snd.fst:Int) - (1:Int)).toNat)).co (z.snd.snd ((0:Nat)+((↑z.snd.fst:Int) - (1:Int)).toNat)).gv)<(0:Int)→(True∧True∧True∧True∧True∧True∧True∧True∧True∧True∧rI ((↑z.snd.1:Int) - (1:Int))∧True∧True∧True∧True∧True∧True∧rI ((↑z.snd.1:Int) - (1:Int))∧True∧True∧(0:Int)≤(↑z.snd.1:Int) - (1:Int)∧(↑z.snd.1:Int) - (1:Int)<(↑C.1:Int)∧True∧True ∧
(0:Nat)+((↑z.snd.1:Int) - (1:Int)).toNat<C.1∧True∧True∧True∧True∧(True∧True∧(0:Int)≤(↑z.snd.1:Int)∧(↑z.snd.1:Int)<(↑C.1:Int)∧True∧True∧(0:Nat)+(↑z.snd.1:Int).toNat<C.1∧True∧True∧(0:Int)≤(↑z.snd.1:Int)∧(↑z.snd.1:Int)<(↑C.1:Int)∧True∧True∧(0:Nat)+(2:Nat)≤(2:Nat)∧(0:Nat)+(↑z.snd.1:Int).toNat<C.1∧(∀ (i':Nat),rE true)∧True∧True∧(0:Int)≤(↑z.snd.1:Int) - (1:Int)∧(↑z.snd.1:Int) - (1:Int)<(↑C.1:Int)∧True∧True∧(0:Nat)+(2:Nat)≤(2:Nat)∧(0:Nat)+((↑z.snd.1:Int) - (1:Int)).toNat<C.1∧(∀ (i':Nat),rE true)∧(in3 C.n (0:Nat) (gA w C) ((↑z.fst:Int).toNat,(↑z.snd.fst:Int).toNat,fun i=>grOf (putR (putR (fun i=>(z.snd.snd i).sv) ((0:Nat)+(↑z.snd.fst:Int).toNat) (0:Nat) (SV.agg [i6 (z.snd.snd ((0:Nat)+((↑z.snd.fst:Int)
- (1:Int)).toNat)).co,i6 (z.snd.snd ((0:Nat)+((↑z.snd.fst:Int) - (1:Int)).toNat)).gv])) ((0:Nat)+((↑z.snd.fst:Int) - (1:Int)).toNat) (0:Nat) (SV.agg [i6 (z.snd.snd ((0:Nat)+(↑z.snd.fst:Int).toNat)).co,i6 (z.snd.snd ((0:Nat)+(↑z.snd.fst:Int).toNat)).gv]) i))∧rE ((↑z.1:Int).toNat*(64:Nat)+(↑z.snd.1:Int).toNat))∧rE (0:Nat)∧C.1=C.1∧rE (0:Int)∧rE (↑C.1:Int)∧rE (Value.func (Fn.func ((57:Nat)+(2:Nat)*(0:Nat))) #[] #[])∧(↑z.1:Int)=(↑(↑z.1:Int).toNat:Int)∧(↑z.snd.1:Int)=(↑(↑z.snd.1:Int).toNat:Int)∧C.1=C.1∧(∀ (i:Nat),i<C.1→rE (2:Nat)∧((if i=(0:Nat)+((↑z.snd.1:Int) - (1:Int)).toNat then (z.snd.snd ((0:Nat)+(↑z.snd.fst:Int).toNat)).1 else if i=(0:Nat)+(↑z.snd.1:Int).toNat then (z.snd.snd ((0:Nat)+((↑z.snd.fst:Int) - (1:Int)).toNat)).1 else (z.snd.snd i).1) =
if i=(0:Nat)+((↑z.snd.1:Int) - (1:Int)).toNat then (z.snd.snd ((0:Nat)+(↑z.snd.fst:Int).toNat)).1 else if i=(0:Nat)+(↑z.snd.1:Int).toNat then (z.snd.snd ((0:Nat)+((↑z.snd.fst:Int) - (1:Int)).toNat)).1 else (z.snd.snd i).1)∧((if i=(0:Nat)+((↑z.snd.1:Int) - (1:Int)).toNat then (z.snd.snd ((0:Nat)+(↑z.snd.fst:Int).toNat)).2 else if i=(0:Nat)+(↑z.snd.1:Int).toNat then (z.snd.snd ((0:Nat)+((↑z.snd.fst:Int) - (1:Int)).toNat)).2 else (z.snd.snd i).2)=if i=(0:Nat)+((↑z.snd.1:Int) - (1:Int)).toNat then (z.snd.snd ((0:Nat)+(↑z.snd.fst:Int).toNat)).2 else if i=(0:Nat)+(↑z.snd.1:Int).toNat then (z.snd.snd ((0:Nat)+((↑z.snd.fst:Int) - (1:Int)).toNat)).2 else (z.snd.snd i).2)∧True)∧C.1=C.1∧(∀ (i:Nat),i<C.1→rE (2:Nat)∧rE (↑i:Int)∧rE ((spT w (C.f i)).2)∧True)∧True)∧True)∧∀ (z_2 :
Nat × Nat × (Nat→Gr)),in3 C.n (0:Nat) (gA w C) z_2∧z_2.1*(64:Nat)+z_2.snd.1=(↑z.1:Int).toNat*(64:Nat)+(↑z.snd.1:Int).toNat→rI ((↑z_2.snd.1:Int) - (1:Int))∧(in2 C.n (0:Nat) (gA w C) ((↑z_2.fst:Int).toNat,((↑z_2.snd.fst:Int) - (1:Int)).toNat,fun i=>grOf (z_2.snd.snd i).sv)∧(↑z_2.1:Int).toNat=(↑z_1.1:Int).toNat)∧((↑z_2.snd.1:Int) - (1:Int)).toNat<z.snd.1∧rE (0:Nat)∧C.1=C.1∧rE (0:Int)∧rE (↑C.1:Int)∧rE (Value.func (Fn.func ((57:Nat)+(2:Nat)*(0:Nat))) #[] #[])∧(↑z_2.1:Int)=(↑(↑z_2.1:Int).toNat:Int)∧(↑z_2.snd.1:Int) - (1:Int)=(↑((↑z_2.snd.1:Int) - (1:Int)).toNat:Int)∧C.1=C.1∧(∀ (i:Nat),i<C.1→rE (2:Nat)∧rE ((z_2.snd.snd i).1)∧rE ((z_2.snd.snd i).2)∧True)∧C.1=C.1∧(∀ (i:Nat),i<C.1→rE (2:Nat)∧rE (↑i:Int)∧rE ((spT w (C.f i)).2)∧True) ∧
True)∧(¬cmW (0:Nat) (Gr.mk (z.snd.snd ((0:Nat)+(↑z.snd.fst:Int).toNat)).co (z.snd.snd ((0:Nat)+(↑z.snd.fst:Int).toNat)).gv) (Gr.mk (z.snd.snd ((0:Nat)+((↑z.snd.fst:Int) - (1:Int)).toNat)).co (z.snd.snd ((0:Nat)+((↑z.snd.fst:Int) - (1:Int)).toNat)).gv)<(0:Int)→rI ((↑z.1:Int)+(1:Int))∧in1 C.n (0:Nat) (gA w C) (((↑z.fst:Int)+(1:Int)).toNat,fun i=>grOf (z.snd.snd i).sv)∧C.1 - ((↑z.1:Int)+(1:Int)).toNat<C.1 - z_1.1∧rE (0:Nat)∧C.1=C.1∧rE (0:Int)∧rE (↑C.1:Int)∧rE (Value.func (Fn.func ((57:Nat)+(2:Nat)*(0:Nat))) #[] #[])∧(↑z.1:Int)+(1:Int)=(↑((↑z.1:Int)+(1:Int)).toNat:Int)∧C.1=C.1∧(∀ (i:Nat),i<C.1→rE (2:Nat)∧rE ((z.snd.snd i).1)∧rE ((z.snd.snd i).2)∧True)∧C.1=C.1∧(∀ (i:Nat),i<C.1→rE (2:Nat)∧rE (↑i:Int)∧rE ((spT w (C.f i)).2)∧True)∧True))
∧ (¬(0:Int)<(↑z.snd.1:Int)→rI ((↑z.1:Int)+(1:Int))∧in1 C.n (0:Nat) (gA w C) (((↑z.fst:Int)+(1:Int)).toNat,fun i=>grOf (z.snd.snd i).sv)∧C.1 - ((↑z.1:Int)+(1:Int)).toNat<C.1 - z_1.1∧rE (0:Nat)∧C.1=C.1∧rE (0:Int)∧rE (↑C.1:Int)∧rE (Value.func (Fn.func ((57:Nat)+(2:Nat)*(0:Nat))) #[] #[])∧(↑z.1:Int)+(1:Int)=(↑((↑z.1:Int)+(1:Int)).toNat:Int)∧C.1=C.1∧(∀ (i:Nat),i<C.1→rE (2:Nat)∧rE ((z.snd.snd i).1)∧rE ((z.snd.snd i).2)∧True)∧C.1=C.1∧(∀ (i:Nat),i<C.1→rE (2:Nat)∧rE (↑i:Int)∧rE ((spT w (C.f i)).2)∧True)∧True))∧(¬(↑z_1.1:Int)<(↑C.1:Int)→((20:Int)<(↑z:Int)→rI ((2:Int)*(20:Int))∧False)∧(¬(20:Int)<(↑z:Int)→((20:Int)≤(↑z:Int)→rI ((0:Int)+(1:Int))∧(in1 C.n (1:Nat) (gB w C) (((0:Int)+(1:Int)).toNat,fun i =>
grOf (gB w C i).sv)∧rE (0:Nat)∧z=C.1∧rE (0:Int)∧(20:Int)=(↑C.1:Int)∧Value.func (Fn.func (59:Nat)) #[] #[]=Value.func (Fn.func ((57:Nat)+(2:Nat)*(1:Nat))) #[] #[]∧(0:Int)+(1:Int)=(↑(1:Nat):Int)∧C.1=C.1∧(∀ (i:Nat),i<C.1→rE (2:Nat)∧(z_1.snd i).1=(stA w C i).1∧(z_1.snd i).2=(stA w C i).2∧True)∧C.1=C.1∧(∀ (i:Nat),i<C.1→rE (2:Nat)∧rE (↑i:Int)∧rE ((spT w (C.f i)).2)∧True)∧True)∧∀ (z:Nat × (Nat→Gr)),in1 C.n (1:Nat) (gB w C) z→((↑z.1:Int)<(↑C.1:Int)→((in2 C.n (1:Nat) (gB w C) ((↑z.fst:Int).toNat,(↑z.fst:Int).toNat,fun i=>grOf (z.snd i).sv)∧rE ((↑z.1:Int).toNat))∧rE (0:Nat)∧C.1=C.1∧rE (0:Int)∧rE (↑C.1:Int)∧rE (Value.func (Fn.func ((57:Nat)+(2:Nat)*(1:Nat))) #[] #[])∧(↑z.1:Int)=(↑(↑z.1:Int).toNat :
Int)∧(↑z.1:Int)=(↑(↑z.1:Int).toNat:Int)∧C.1=C.1∧(∀ (i:Nat),i<C.1→rE (2:Nat)∧rE ((stA w C i).1)∧rE ((stA w C i).2)∧True)∧C.1=C.1∧(∀ (i:Nat),i<C.1→rE (2:Nat)∧rE ((z.snd i).1)∧rE ((z.snd i).2)∧True)∧True)∧∀ (z_2:Nat × Nat × (Nat→Gr)),in2 C.n (1:Nat) (gB w C) z_2∧z_2.1=(↑z.1:Int).toNat→((0:Int)<(↑z_2.snd.1:Int)→(0:Int)≤(↑z_2.snd.1:Int)∧(↑z_2.snd.1:Int)<(↑C.1:Int)∧(0:Nat)+(↑z_2.snd.1:Int).toNat<C.1∧rI ((↑z_2.snd.1:Int) - (1:Int))∧(0:Int)≤(↑z_2.snd.1:Int) - (1:Int)∧(↑z_2.snd.1:Int) - (1:Int)<(↑C.1:Int)∧(0:Nat)+((↑z_2.snd.1:Int) - (1:Int)).toNat<C.1∧(cmW (1:Nat) (Gr.mk (z_2.snd.snd ((0:Nat)+(↑z_2.snd.fst:Int).toNat)).co (z_2.snd.snd ((0:Nat)+(↑z_2.snd.fst:Int).toNat)).gv) (Gr.mk (z_2.snd.snd ((0:Nat) +
((↑z_2.snd.fst:Int) - (1:Int)).toNat)).co (z_2.snd.snd ((0:Nat)+((↑z_2.snd.fst:Int) - (1:Int)).toNat)).gv)<(0:Int)→(True∧True∧True∧True∧True∧True∧True∧True∧True∧True∧rI ((↑z_2.snd.1:Int) - (1:Int))∧True∧True∧True∧True∧True∧True∧rI ((↑z_2.snd.1:Int) - (1:Int))∧True∧True∧(0:Int)≤(↑z_2.snd.1:Int) - (1:Int)∧(↑z_2.snd.1:Int) - (1:Int)<(↑C.1:Int)∧True∧True∧(0:Nat)+((↑z_2.snd.1:Int) - (1:Int)).toNat<C.1∧True∧True∧True∧True∧(True∧True∧(0:Int)≤(↑z_2.snd.1:Int)∧(↑z_2.snd.1:Int)<(↑C.1:Int)∧True∧True∧(0:Nat)+(↑z_2.snd.1:Int).toNat<C.1∧True∧True∧(0:Int)≤(↑z_2.snd.1:Int)∧(↑z_2.snd.1:Int)<(↑C.1:Int)∧True∧True∧(0:Nat)+(2:Nat)≤(2:Nat)∧(0:Nat)+(↑z_2.snd.1:Int).toNat<C.1∧(∀ (i':Nat),rE true)∧True∧True∧(0 :
Int)≤(↑z_2.snd.1:Int) - (1:Int)∧(↑z_2.snd.1:Int) - (1:Int)<(↑C.1:Int)∧True∧True∧(0:Nat)+(2:Nat)≤(2:Nat)∧(0:Nat)+((↑z_2.snd.1:Int) - (1:Int)).toNat<C.1∧(∀ (i':Nat),rE true)∧(in3 C.n (1:Nat) (gB w C) ((↑z_2.fst:Int).toNat,(↑z_2.snd.fst:Int).toNat,fun i=>grOf (putR (putR (fun i=>(z_2.snd.snd i).sv) ((0:Nat)+(↑z_2.snd.fst:Int).toNat) (0:Nat) (SV.agg [i6 (z_2.snd.snd ((0:Nat)+((↑z_2.snd.fst:Int) - (1:Int)).toNat)).co,i6 (z_2.snd.snd ((0:Nat)+((↑z_2.snd.fst:Int) - (1:Int)).toNat)).gv])) ((0:Nat)+((↑z_2.snd.fst:Int) - (1:Int)).toNat) (0:Nat) (SV.agg [i6 (z_2.snd.snd ((0:Nat)+(↑z_2.snd.fst:Int).toNat)).co,i6 (z_2.snd.snd ((0:Nat)+(↑z_2.snd.fst:Int).toNat)).gv]) i))∧rE ((↑z_2.1:Int).toNat*(64:Nat)+(↑z_2.snd.1:Int).toNat))∧rE (0:Nat)∧C.1=C.1∧rE (0:Int) ∧
rE (↑C.1:Int)∧rE (Value.func (Fn.func ((57:Nat)+(2:Nat)*(1:Nat))) #[] #[])∧(↑z_2.1:Int)=(↑(↑z_2.1:Int).toNat:Int)∧(↑z_2.snd.1:Int)=(↑(↑z_2.snd.1:Int).toNat:Int)∧C.1=C.1∧(∀ (i:Nat),i<C.1→rE (2:Nat)∧rE ((stA w C i).1)∧rE ((stA w C i).2)∧True)∧C.1=C.1∧(∀ (i:Nat),i<C.1→rE (2:Nat)∧((if i=(0:Nat)+((↑z_2.snd.1:Int) - (1:Int)).toNat then (z_2.snd.snd ((0:Nat)+(↑z_2.snd.fst:Int).toNat)).1 else if i=(0:Nat)+(↑z_2.snd.1:Int).toNat then (z_2.snd.snd ((0:Nat)+((↑z_2.snd.fst:Int) - (1:Int)).toNat)).1 else (z_2.snd.snd i).1)=if i=(0:Nat)+((↑z_2.snd.1:Int) - (1:Int)).toNat then (z_2.snd.snd ((0:Nat)+(↑z_2.snd.fst:Int).toNat)).1 else if i=(0:Nat)+(↑z_2.snd.1:Int).toNat then (z_2.snd.snd ((0:Nat)+((↑z_2.snd.fst:Int) - (1:Int)).toNat)).1 else
(z_2.snd.snd i).1)∧((if i=(0:Nat)+((↑z_2.snd.1:Int) - (1:Int)).toNat then (z_2.snd.snd ((0:Nat)+(↑z_2.snd.fst:Int).toNat)).2 else if i=(0:Nat)+(↑z_2.snd.1:Int).toNat then (z_2.snd.snd ((0:Nat)+((↑z_2.snd.fst:Int) - (1:Int)).toNat)).2 else (z_2.snd.snd i).2)=if i=(0:Nat)+((↑z_2.snd.1:Int) - (1:Int)).toNat then (z_2.snd.snd ((0:Nat)+(↑z_2.snd.fst:Int).toNat)).2 else if i=(0:Nat)+(↑z_2.snd.1:Int).toNat then (z_2.snd.snd ((0:Nat)+((↑z_2.snd.fst:Int) - (1:Int)).toNat)).2 else (z_2.snd.snd i).2)∧True)∧True)∧True)∧∀ (z_3:Nat × Nat × (Nat→Gr)),in3 C.n (1:Nat) (gB w C) z_3∧z_3.1*(64:Nat)+z_3.snd.1=(↑z_2.1:Int).toNat*(64:Nat)+(↑z_2.snd.1:Int).toNat→rI ((↑z_3.snd.1:Int) - (1:Int))∧(in2 C.n (1:Nat) (gB w C) ((↑z_3.fst:Int).toNat,((↑z_3.snd.fst:Int) - (1 :
Int)).toNat,fun i=>grOf (z_3.snd.snd i).sv)∧(↑z_3.1:Int).toNat=(↑z.1:Int).toNat)∧((↑z_3.snd.1:Int) - (1:Int)).toNat<z_2.snd.1∧rE (0:Nat)∧C.1=C.1∧rE (0:Int)∧rE (↑C.1:Int)∧rE (Value.func (Fn.func ((57:Nat)+(2:Nat)*(1:Nat))) #[] #[])∧(↑z_3.1:Int)=(↑(↑z_3.1:Int).toNat:Int)∧(↑z_3.snd.1:Int) - (1:Int)=(↑((↑z_3.snd.1:Int) - (1:Int)).toNat:Int)∧C.1=C.1∧(∀ (i:Nat),i<C.1→rE (2:Nat)∧rE ((stA w C i).1)∧rE ((stA w C i).2)∧True)∧C.1=C.1∧(∀ (i:Nat),i<C.1→rE (2:Nat)∧rE ((z_3.snd.snd i).1)∧rE ((z_3.snd.snd i).2)∧True)∧True)∧(¬cmW (1:Nat) (Gr.mk (z_2.snd.snd ((0:Nat)+(↑z_2.snd.fst:Int).toNat)).co (z_2.snd.snd ((0:Nat)+(↑z_2.snd.fst:Int).toNat)).gv) (Gr.mk (z_2.snd.snd ((0:Nat)+((↑z_2.snd.fst:Int) - (1:Int)).toNat)).co (z_2.snd.snd ((0:Nat) +
((↑z_2.snd.fst:Int) - (1:Int)).toNat)).gv)<(0:Int)→rI ((↑z_2.1:Int)+(1:Int))∧in1 C.n (1:Nat) (gB w C) (((↑z_2.fst:Int)+(1:Int)).toNat,fun i=>grOf (z_2.snd.snd i).sv)∧C.1 - ((↑z_2.1:Int)+(1:Int)).toNat<C.1 - z.1∧rE (0:Nat)∧C.1=C.1∧rE (0:Int)∧rE (↑C.1:Int)∧rE (Value.func (Fn.func ((57:Nat)+(2:Nat)*(1:Nat))) #[] #[])∧(↑z_2.1:Int)+(1:Int)=(↑((↑z_2.1:Int)+(1:Int)).toNat:Int)∧C.1=C.1∧(∀ (i:Nat),i<C.1→rE (2:Nat)∧rE ((stA w C i).1)∧rE ((stA w C i).2)∧True)∧C.1=C.1∧(∀ (i:Nat),i<C.1→rE (2:Nat)∧rE ((z_2.snd.snd i).1)∧rE ((z_2.snd.snd i).2)∧True)∧True))∧(¬(0:Int)<(↑z_2.snd.1:Int)→rI ((↑z_2.1:Int)+(1:Int))∧in1 C.n (1:Nat) (gB w C) (((↑z_2.fst:Int)+(1:Int)).toNat,fun i=>grOf (z_2.snd.snd i).sv)∧C.1 - ((↑z_2.1 :
Int)+(1:Int)).toNat<C.1 - z.1∧rE (0:Nat)∧C.1=C.1∧rE (0:Int)∧rE (↑C.1:Int)∧rE (Value.func (Fn.func ((57:Nat)+(2:Nat)*(1:Nat))) #[] #[])∧(↑z_2.1:Int)+(1:Int)=(↑((↑z_2.1:Int)+(1:Int)).toNat:Int)∧C.1=C.1∧(∀ (i:Nat),i<C.1→rE (2:Nat)∧rE ((stA w C i).1)∧rE ((stA w C i).2)∧True)∧C.1=C.1∧(∀ (i:Nat),i<C.1→rE (2:Nat)∧rE ((z_2.snd.snd i).1)∧rE ((z_2.snd.snd i).2)∧True)∧True))∧(¬(↑z.1:Int)<(↑C.1:Int)→rI ((20:Int)+(20:Int))∧False))∧(¬(20:Int)≤(↑z:Int)→rI ((0:Int)+(1:Int))∧(in1 C.n (1:Nat) (gB w C) (((0:Int)+(1:Int)).toNat,fun i=>grOf (gB w C i).sv)∧rE (0:Nat)∧z=C.1∧rE (0:Int)∧(↑z:Int)=(↑C.1:Int)∧Value.func (Fn.func (59:Nat)) #[] #[]=Value.func (Fn.func ((57:Nat)+(2:Nat)*(1:Nat))) #[] #[]∧(0
: Int)+(1:Int)=(↑(1:Nat):Int)∧C.1=C.1∧(∀ (i:Nat),i<C.1→rE (2:Nat)∧(z_1.snd i).1=(stA w C i).1∧(z_1.snd i).2=(stA w C i).2∧True)∧C.1=C.1∧(∀ (i:Nat),i<C.1→rE (2:Nat)∧rE (↑i:Int)∧rE ((spT w (C.f i)).2)∧True)∧True)∧∀ (z_2:Nat × (Nat→Gr)),in1 C.n (1:Nat) (gB w C) z_2→((↑z_2.1:Int)<(↑C.1:Int)→((in2 C.n (1:Nat) (gB w C) ((↑z_2.fst:Int).toNat,(↑z_2.fst:Int).toNat,fun i=>grOf (z_2.snd i).sv)∧rE ((↑z_2.1:Int).toNat))∧rE (0:Nat)∧C.1=C.1∧rE (0:Int)∧rE (↑C.1:Int)∧rE (Value.func (Fn.func ((57:Nat)+(2:Nat)*(1:Nat))) #[] #[])∧(↑z_2.1:Int)=(↑(↑z_2.1:Int).toNat:Int)∧(↑z_2.1:Int)=(↑(↑z_2.1:Int).toNat:Int)∧C.1=C.1∧(∀ (i:Nat),i<C.1→rE (2:Nat)∧rE ((stA w C i).1)∧rE ((stA w C i).2)∧True)∧C.1=C.1∧(∀ (i :
Nat),i<C.1→rE (2:Nat)∧rE ((z_2.snd i).1)∧rE ((z_2.snd i).2)∧True)∧True)∧∀ (z:Nat × Nat × (Nat→Gr)),in2 C.n (1:Nat) (gB w C) z∧z.1=(↑z_2.1:Int).toNat→((0:Int)<(↑z.snd.1:Int)→(0:Int)≤(↑z.snd.1:Int)∧(↑z.snd.1:Int)<(↑C.1:Int)∧(0:Nat)+(↑z.snd.1:Int).toNat<C.1∧rI ((↑z.snd.1:Int) - (1:Int))∧(0:Int)≤(↑z.snd.1:Int) - (1:Int)∧(↑z.snd.1:Int) - (1:Int)<(↑C.1:Int)∧(0:Nat)+((↑z.snd.1:Int) - (1:Int)).toNat<C.1∧(cmW (1:Nat) (Gr.mk (z.snd.snd ((0:Nat)+(↑z.snd.fst:Int).toNat)).co (z.snd.snd ((0:Nat)+(↑z.snd.fst:Int).toNat)).gv) (Gr.mk (z.snd.snd ((0:Nat)+((↑z.snd.fst:Int) - (1:Int)).toNat)).co (z.snd.snd ((0:Nat)+((↑z.snd.fst:Int) - (1:Int)).toNat)).gv)<(0:Int)→(True∧True∧True∧True∧True∧True∧True∧True∧True∧True∧rI ((↑z.snd.1:Int) - (1 :
Int))∧True∧True∧True∧True∧True∧True∧rI ((↑z.snd.1:Int) - (1:Int))∧True∧True∧(0:Int)≤(↑z.snd.1:Int) - (1:Int)∧(↑z.snd.1:Int) - (1:Int)<(↑C.1:Int)∧True∧True∧(0:Nat)+((↑z.snd.1:Int) - (1:Int)).toNat<C.1∧True∧True∧True∧True∧(True∧True∧(0:Int)≤(↑z.snd.1:Int)∧(↑z.snd.1:Int)<(↑C.1:Int)∧True∧True∧(0:Nat)+(↑z.snd.1:Int).toNat<C.1∧True∧True∧(0:Int)≤(↑z.snd.1:Int)∧(↑z.snd.1:Int)<(↑C.1:Int)∧True∧True∧(0:Nat)+(2:Nat)≤(2:Nat)∧(0:Nat)+(↑z.snd.1:Int).toNat<C.1∧(∀ (i':Nat),rE true)∧True∧True∧(0:Int)≤(↑z.snd.1:Int) - (1:Int)∧(↑z.snd.1:Int) - (1:Int)<(↑C.1:Int)∧True∧True∧(0:Nat)+(2:Nat)≤(2:Nat)∧(0:Nat)+((↑z.snd.1:Int) - (1:Int)).toNat<C.1∧(∀ (i':Nat),rE true)∧(in3 C.n (1:Nat) (gB w C)
((↑z.fst:Int).toNat,(↑z.snd.fst:Int).toNat,fun i=>grOf (putR (putR (fun i=>(z.snd.snd i).sv) ((0:Nat)+(↑z.snd.fst:Int).toNat) (0:Nat) (SV.agg [i6 (z.snd.snd ((0:Nat)+((↑z.snd.fst:Int) - (1:Int)).toNat)).co,i6 (z.snd.snd ((0:Nat)+((↑z.snd.fst:Int) - (1:Int)).toNat)).gv])) ((0:Nat)+((↑z.snd.fst:Int) - (1:Int)).toNat) (0:Nat) (SV.agg [i6 (z.snd.snd ((0:Nat)+(↑z.snd.fst:Int).toNat)).co,i6 (z.snd.snd ((0:Nat)+(↑z.snd.fst:Int).toNat)).gv]) i))∧rE ((↑z.1:Int).toNat*(64:Nat)+(↑z.snd.1:Int).toNat))∧rE (0:Nat)∧C.1=C.1∧rE (0:Int)∧rE (↑C.1:Int)∧rE (Value.func (Fn.func ((57:Nat)+(2:Nat)*(1:Nat))) #[] #[])∧(↑z.1:Int)=(↑(↑z.1:Int).toNat:Int)∧(↑z.snd.1:Int)=(↑(↑z.snd.1:Int).toNat:Int)∧C.1=C.1∧(∀ (i:Nat),i<C.1→rE (2:Nat)∧rE ((stA w C i).1)∧rE ((stA w C
i).2)∧True)∧C.1=C.1∧(∀ (i:Nat),i<C.1→rE (2:Nat)∧((if i=(0:Nat)+((↑z.snd.1:Int) - (1:Int)).toNat then (z.snd.snd ((0:Nat)+(↑z.snd.fst:Int).toNat)).1 else if i=(0:Nat)+(↑z.snd.1:Int).toNat then (z.snd.snd ((0:Nat)+((↑z.snd.fst:Int) - (1:Int)).toNat)).1 else (z.snd.snd i).1)=if i=(0:Nat)+((↑z.snd.1:Int) - (1:Int)).toNat then (z.snd.snd ((0:Nat)+(↑z.snd.fst:Int).toNat)).1 else if i=(0:Nat)+(↑z.snd.1:Int).toNat then (z.snd.snd ((0:Nat)+((↑z.snd.fst:Int) - (1:Int)).toNat)).1 else (z.snd.snd i).1)∧((if i=(0:Nat)+((↑z.snd.1:Int) - (1:Int)).toNat then (z.snd.snd ((0:Nat)+(↑z.snd.fst:Int).toNat)).2 else if i=(0:Nat)+(↑z.snd.1:Int).toNat then (z.snd.snd ((0:Nat)+((↑z.snd.fst:Int) - (1:Int)).toNat)).2 else (z.snd.snd i).2)=if i=(0:Nat)+((↑z.snd.1:Int) - (1:Int)).toNat
then (z.snd.snd ((0:Nat)+(↑z.snd.fst:Int).toNat)).2 else if i=(0:Nat)+(↑z.snd.1:Int).toNat then (z.snd.snd ((0:Nat)+((↑z.snd.fst:Int) - (1:Int)).toNat)).2 else (z.snd.snd i).2)∧True)∧True)∧True)∧∀ (z_3:Nat × Nat × (Nat→Gr)),in3 C.n (1:Nat) (gB w C) z_3∧z_3.1*(64:Nat)+z_3.snd.1=(↑z.1:Int).toNat*(64:Nat)+(↑z.snd.1:Int).toNat→rI ((↑z_3.snd.1:Int) - (1:Int))∧(in2 C.n (1:Nat) (gB w C) ((↑z_3.fst:Int).toNat,((↑z_3.snd.fst:Int) - (1:Int)).toNat,fun i=>grOf (z_3.snd.snd i).sv)∧(↑z_3.1:Int).toNat=(↑z_2.1:Int).toNat)∧((↑z_3.snd.1:Int) - (1:Int)).toNat<z.snd.1∧rE (0:Nat)∧C.1=C.1∧rE (0:Int)∧rE (↑C.1:Int)∧rE (Value.func (Fn.func ((57:Nat)+(2:Nat)*(1:Nat))) #[] #[])∧(↑z_3.1:Int)=(↑(↑z_3.1:Int).toNat:Int)∧(↑z_3.snd.1:Int) - (1:Int)=(↑((↑z_3.snd.1 :
Int) - (1:Int)).toNat:Int)∧C.1=C.1∧(∀ (i:Nat),i<C.1→rE (2:Nat)∧rE ((stA w C i).1)∧rE ((stA w C i).2)∧True)∧C.1=C.1∧(∀ (i:Nat),i<C.1→rE (2:Nat)∧rE ((z_3.snd.snd i).1)∧rE ((z_3.snd.snd i).2)∧True)∧True)∧(¬cmW (1:Nat) (Gr.mk (z.snd.snd ((0:Nat)+(↑z.snd.fst:Int).toNat)).co (z.snd.snd ((0:Nat)+(↑z.snd.fst:Int).toNat)).gv) (Gr.mk (z.snd.snd ((0:Nat)+((↑z.snd.fst:Int) - (1:Int)).toNat)).co (z.snd.snd ((0:Nat)+((↑z.snd.fst:Int) - (1:Int)).toNat)).gv)<(0:Int)→rI ((↑z.1:Int)+(1:Int))∧in1 C.n (1:Nat) (gB w C) (((↑z.fst:Int)+(1:Int)).toNat,fun i=>grOf (z.snd.snd i).sv)∧C.1 - ((↑z.1:Int)+(1:Int)).toNat<C.1 - z_2.1∧rE (0:Nat)∧C.1=C.1∧rE (0:Int)∧rE (↑C.1:Int)∧rE (Value.func (Fn.func ((57:Nat)+(2:Nat)*(1:Nat))) #[] #[])∧(↑z.1:Int) +
(1:Int)=(↑((↑z.1:Int)+(1:Int)).toNat:Int)∧C.1=C.1∧(∀ (i:Nat),i<C.1→rE (2:Nat)∧rE ((stA w C i).1)∧rE ((stA w C i).2)∧True)∧C.1=C.1∧(∀ (i:Nat),i<C.1→rE (2:Nat)∧rE ((z.snd.snd i).1)∧rE ((z.snd.snd i).2)∧True)∧True))∧(¬(0:Int)<(↑z.snd.1:Int)→rI ((↑z.1:Int)+(1:Int))∧in1 C.n (1:Nat) (gB w C) (((↑z.fst:Int)+(1:Int)).toNat,fun i=>grOf (z.snd.snd i).sv)∧C.1 - ((↑z.1:Int)+(1:Int)).toNat<C.1 - z_2.1∧rE (0:Nat)∧C.1=C.1∧rE (0:Int)∧rE (↑C.1:Int)∧rE (Value.func (Fn.func ((57:Nat)+(2:Nat)*(1:Nat))) #[] #[])∧(↑z.1:Int)+(1:Int)=(↑((↑z.1:Int)+(1:Int)).toNat:Int)∧C.1=C.1∧(∀ (i:Nat),i<C.1→rE (2:Nat)∧rE ((stA w C i).1)∧rE ((stA w C i).2)∧True)∧C.1=C.1∧(∀ (i:Nat),i<C.1→rE (2:Nat)∧rE ((z.snd.snd
i).1)∧rE ((z.snd.snd i).2)∧True)∧True))∧(¬(↑z_2.1:Int)<(↑C.1:Int)→((20:Int)<(↑z:Int)→rI ((2:Int)*(20:Int))∧False)∧(¬(20:Int)<(↑z:Int)→z=C.1∧(0:Nat)+C.1≤C.1∧(∀ (i:Nat),i<C.1→rE (2:Nat)∧rE (2:Nat)∧(stA w C (i+(0:Nat))).1=(stA w C i).1∧(stA w C (i+(0:Nat))).2=(stA w C i).2∧True)∧z=C.1∧(0:Nat)+C.1≤C.1∧(∀ (i:Nat),i<C.1→rE (2:Nat)∧rE (2:Nat)∧(z_2.snd (i+(0:Nat))).1=(stB w C i).1∧(z_2.snd (i+(0:Nat))).2=(stB w C i).2∧True)∧True))))))))
theorem gr0_vc (C:Cl):gr0 C=grT 0 C:=by kernel_rfl
theorem gr1_vc (C:Cl):gr1 C=grT 1 C:=by kernel_rfl
theorem gr2_vc (C:Cl):gr2 C=grT 2 C:=by kernel_rfl
theorem gr3_vc (C:Cl):gr3 C=grT 3 C:=by kernel_rfl
end Go.Proofs.Ytfiaadlgfjokjaa

set_option maxRecDepth 100000
namespace Go.Proofs.Ytfiaadlgfjokjaa
open Go Go.Lg
attribute [local irreducible] funS bodyH
theorem gr_fold (g:Gr):grOf g.sv=g:=rfl
theorem grm_fold (g:Gr):Gr.mk g.co g.gv=g:=rfl
def upG (f:Nat→Gr) (i:Nat) (x:Gr) (k:Nat):Gr:=⟨if k=i then x.co else (f k).co,if k=i then x.gv else (f k).gv⟩
theorem putR_up (f:Nat→Gr) (i:Nat) (x:Gr):putR (fun i=>(f i).sv) i 0 (SV.agg [i6 x.co,i6 x.gv])=fun k=>(upG f i x k).sv:=rfl
theorem up_swp {f:Nat→Gr} {j k:Nat}:upG (upG f (j+1) (f j)) j (f (j+1)) k=swp f (j+1) k:=by
 unfold upG swp
 by_cases e:k=j
 ·subst e
  have h:k+1 - 1=k:=by omega
  simp only [h,if_true]
 ·have h:j+1 - 1=j:=by omega
  simp only [h,if_neg e]
  by_cases e2:k=j+1
  ·simp only [if_pos e2]
  ·simp only [if_neg e2]
theorem swp_congr {f g:Nat→Gr} {q j:Nat} (h:∀ k,k<q→f k=g k) (hj:j<q):∀ k,k<q→swp f j k=swp g j k:=fun k hk=>by
 unfold swp
 split
 ·exact h j hj
 ·split
  ·exact h _ (by omega)
  ·exact h k hk
theorem inF_congr {w q:Nat}:∀ {j:Nat} {f g:Nat→Gr},(∀ k,k<q→f k=g k)→j<q→∀ k,k<q→inF w f j k=inF w g j k
 | 0,f,g,h,_,k,hk=>h k hk
 | j+1,f,g,h,hj,k,hk=>by
  simp only [inF]
  rw [h (j+1) hj,h j (by omega)]
  split
  ·exact inF_congr (swp_congr h hj) (by omega) k hk
  ·exact h k hk
theorem so_nx {q w:Nat} {g:Nat→Gr} (hq:q≤6) {i:Nat} {f:Nat→Gr} (h1:1≤i) (h2:i<q) (hf:∀ k,k<q→f k=stF w g (i+1) k) :
  (-9223372036854775808≤(i:Int)+1∧(i:Int)+1≤9223372036854775807)∧in1 q w g (((i:Int)+1).toNat,fun i=>f i)∧q - ((i:Int)+1).toNat<q - i∧(i:Int)+1=((((i:Int)+1).toNat:Nat):Int):=by
 have e:((i:Int)+1).toNat=i+1:=by omega
 rw [e]
 exact ⟨by omega,⟨by show 1≤i+1; omega,by show i+1≤max 1 q; omega,hf⟩,by omega,by omega⟩
theorem so_in {q w:Nat} {g:Nat→Gr} (hq:q≤6) {i j:Nat} {f:Nat→Gr} (hz:in2 q w g (i,j+1,f)) :
  (cmW w (f (j+1)) (f j)<0→in3 q w g (i,j+1,fun k=>grOf (putR (putR (fun i=>(f i).sv) (j+1) 0 (SV.agg [i6 (f j).co,i6 (f j).gv])) j 0 (SV.agg [i6 (f (j+1)).co,i6 (f (j+1)).gv]) k))) ∧
  (¬ cmW w (f (j+1)) (f j)<0→∀ k,k<q→f k=stF w g (i+1) k):=by
 refine ⟨fun hc=>?_,fun hc k hk=>?_⟩
 ·rw [putR_up,putR_up]
  refine ⟨hz.a,hz.b,hz.c,by show 1≤j+1; omega,fun k hk=>?_⟩
  show inF w (fun k=>grOf (upG (upG f (j+1) (f j)) j (f (j+1)) k).sv) j k=_
  have e:(fun k=>grOf (upG (upG f (j+1) (f j)) j (f (j+1)) k).sv)=swp f (j+1):=funext fun k=>up_swp
  rw [e]
  have:=hz.f k hk
  simp only [inF] at this
  rw [if_pos hc] at this
  exact this
 ·have:=hz.f k hk
  simp only [inF] at this
  rw [if_neg hc] at this
  exact this
theorem so_bk {q w:Nat} {g:Nat→Gr} {i j:Nat} {f:Nat→Gr} (hq:q≤6) (h2:in3 q w g (i,j+1,f)) (hj:j+1≤i) :
  (-9223372036854775808≤((j+1:Nat):Int) - 1∧((j+1:Nat):Int) - 1≤9223372036854775807)∧(in2 q w g (i,(((j+1:Nat):Int) - 1).toNat,fun k=>f k)∧i=i)∧(((j+1:Nat):Int) - 1).toNat<j+1∧((j+1:Nat):Int) - 1=(((((j+1:Nat):Int) - 1).toNat:Nat):Int):=by
 have ej:(((j+1:Nat):Int) - 1).toNat=j:=by omega
 rw [ej]
 have b:=h2.b
 simp only at b
 exact ⟨by omega,⟨⟨h2.a,h2.b,by show j≤i; omega,h2.f⟩,rfl⟩,by omega,by omega⟩
theorem gr_true {w:Nat} {C:Cl} (hC:C.n≤6):grT w C:=by
 unfold grT
 simp only [rI,rE,tA,tB,tC,tD,tt3,tt4,tt5,tt13,tt14,and_true,true_and,Nat.zero_lt_one,and_self,implies_true,Int.toNat_natCast,Nat.zero_add,Nat.add_zero,Nat.one_mul,Nat.mul_one,Classical.not_not,iff_self,Bool.false_eq_true,imp_false,and_imp,true_implies,forall_const,gr_fold,grm_fold]
 refine ⟨⟨0,by omega,rfl,rfl,rfl,rfl⟩,fun z hz=>⟨fun hl=>⟨by omega,hl,by omega,by omega,by omega,by omega,by omega,z+1,by omega,by omega,rfl,rfl,by omega,rfl,fun i hi=>?_,rfl,fun i hi=>?_⟩,fun hl=>⟨fun h=>by omega,fun _=>⟨by omega,⟨⟨Nat.le_refl 1,by show (0+1:Int).toNat≤max 1 C.n; omega,fun k hk=>rfl⟩,by omega,by omega,rfl,by omega⟩,?_⟩⟩⟩⟩
 ·by_cases e:i<z
  ·simp only [if_pos e]; exact ⟨trivial,trivial⟩
  ·have:i=z:=by omega
   subst this; simp only [if_neg e]; exact ⟨trivial,trivial⟩
 ·by_cases e:i<z
  ·simp only [if_pos e]; exact ⟨trivial,trivial⟩
  ·have:i=z:=by omega
   subst this; simp only [if_neg e]; exact ⟨trivial,trivial⟩
 rintro ⟨i,f⟩ hi
 have a1:=hi.a
 have a2:=hi.b
 have a3:=hi.f
 simp only at a1 a2 a3 ⊢
 refine ⟨fun hl=>⟨⟨a1,by show i<C.n; omega,Nat.le_refl _,fun k hk=>inF_congr a3 (by show i<C.n; omega) k hk⟩,?_⟩,fun hl=>?_⟩
 ·rintro ⟨i',j,f'⟩ hj e
  simp only at e
  subst e
  have b1:=hj.b
  have b2:=hj.c
  have b3:=hj.f
  simp only at b1 b2 b3 ⊢
  refine ⟨fun h0=>?_,fun h0=>so_nx hC a1 b1 fun k hk=>?_⟩
  ·obtain ⟨j,rfl⟩:∃ j',j=j'+1:=⟨j - 1,by omega⟩
   have ej:(((j+1:Nat):Int) - 1).toNat=j:=by omega
   rw [ej]
   obtain ⟨s1,s2⟩:=so_in hC hj
   refine ⟨by omega,by omega,by omega,by omega,by omega,by omega,by omega,fun hc=>⟨⟨by omega,by omega,by omega,by omega,by omega,by omega,by omega,by omega,by omega,by omega,by omega,by omega,by omega,by omega,by omega,by omega,s1 hc⟩,?_⟩,fun hc=>so_nx hC a1 b1 (s2 hc)⟩
   rintro ⟨i2,j2,f2⟩ h2 e2
   have c1:=h2.b
   have c2:=h2.c
   have c3:=h2.d
   simp only at e2 c1 c2 c3 ⊢
   obtain ⟨rfl,rfl⟩:i2=i'∧j2=j+1:=by omega
   exact so_bk hC h2 c2
  ·have e0:j=0:=by omega
   subst e0
   exact b3 k hk
 ·refine ⟨fun h=>by omega,fun _=>⟨fun h=>by omega,fun _=>⟨by omega,⟨⟨Nat.le_refl 1,by show (0+1:Int).toNat≤max 1 C.n; omega,fun k hk=>rfl⟩,by omega,by omega,rfl,fun k hk=>?_⟩,?_⟩⟩⟩
  ·by_cases hn:C.n=0
   ·omega
   ·have:i=C.n:=by omega
    subst this
    have:=a3 k hk
    rw [this]; exact ⟨rfl,rfl⟩
  rintro ⟨i2,f2⟩ hi2
  have d1:=hi2.a
  have d2:=hi2.b
  have d3:=hi2.f
  simp only at d1 d2 d3 ⊢
  refine ⟨fun hl=>⟨⟨d1,by show i2<C.n; omega,Nat.le_refl _,fun k hk=>inF_congr d3 (by show i2<C.n; omega) k hk⟩,?_⟩,fun hl=>⟨fun h=>by omega,fun _=>⟨by omega,Nat.le_refl _,by omega,Nat.le_refl _,fun k hk=>?_⟩⟩⟩
  ·rintro ⟨i',j,f'⟩ hj e
   simp only at e
   subst e
   have b1:=hj.b
   have b2:=hj.c
   have b3:=hj.f
   simp only at b1 b2 b3 ⊢
   refine ⟨fun h0=>?_,fun h0=>so_nx hC d1 b1 fun k hk=>?_⟩
   ·obtain ⟨j,rfl⟩:∃ j',j=j'+1:=⟨j - 1,by omega⟩
    have ej:(((j+1:Nat):Int) - 1).toNat=j:=by omega
    rw [ej]
    obtain ⟨s1,s2⟩:=so_in hC hj
    refine ⟨by omega,by omega,by omega,by omega,by omega,by omega,by omega,fun hc=>⟨⟨by omega,by omega,by omega,by omega,by omega,by omega,by omega,by omega,by omega,by omega,by omega,by omega,by omega,by omega,by omega,by omega,s1 hc⟩,?_⟩,fun hc=>so_nx hC d1 b1 (s2 hc)⟩
    rintro ⟨i2,j2,f2⟩ h2 e2
    have c1:=h2.b
    have c2:=h2.c
    have c3:=h2.d
    simp only at e2 c1 c2 c3 ⊢
    obtain ⟨rfl,rfl⟩:i2=i'∧j2=j+1:=by omega
    exact so_bk hC h2 c2
   ·have e0:j=0:=by omega
    subst e0
    exact b3 k hk
  ·have:i2=C.n:=by omega
   subst this
   have:=d3 k hk
   rw [this]; exact ⟨rfl,rfl⟩
theorem nan_true (a:Int):nanG a:=by rw [nanG_vc]; simp
theorem nan_ok:nanC.Ok Try.prog:=by
 refine ⟨by kernel_rfl,fun x k hk=>?_⟩
 simp only [nanC] at hk
 split at hk
 ·rename_i a
  exact ⟨_,plainD nilS_cs nilS_x nilS_ic (nan_true a) trivial,hk⟩
 ·exact hk.elim
theorem cp_true (a b:Int):cpG a b:=by
 rw [cpG_vc]
 simp only [and_true,cmpI]
 refine ⟨fun h=>by rw [if_pos h],fun h=>⟨fun h2=>by rw [if_neg h,if_pos h2],fun h2=>by rw [if_neg h,if_neg h2]⟩⟩
theorem cp_ok:cpC.Ok Try.prog:=by
 refine ⟨by kernel_rfl,fun x k hk=>?_⟩
 simp only [cpC] at hk
 split at hk
 ·rename_i a b
  exact ⟨_,plainD (one_cs nan_ok) nilS_x nilS_ic (cp_true a b) trivial,hk⟩
 ·exact hk.elim
theorem co_true (a b:Gr):coG a b:=by
 rw [coG_vc]
 simp only [and_true,true_and,Nat.zero_lt_one]
 rfl
theorem co_true' (a b:Gr):coG' a b:=by
 rw [coG'_vc]
 simp only [and_true,true_and,Nat.zero_lt_one]
 rfl
theorem co_ok:coC.Ok Try.prog:=by
 refine ⟨by kernel_rfl,fun x k hk=>?_⟩
 simp only [coC] at hk
 split at hk
 ·rename_i a b c d
  exact ⟨_,plainD (one_cs cp_ok) nilS_x nilS_ic (co_true ⟨a,b⟩ ⟨c,d⟩) trivial,hk⟩
 ·exact hk.elim
theorem co_ok':coC'.Ok Try.prog:=by
 refine ⟨by kernel_rfl,fun x k hk=>?_⟩
 simp only [coC'] at hk
 split at hk
 ·rename_i a b c d
  exact ⟨_,plainD (one_cs cp_ok) nilS_x nilS_ic (co_true' ⟨a,b⟩ ⟨c,d⟩) trivial,hk⟩
 ·exact hk.elim
theorem csS_sound:SoundS Try.prog csS:=ctrs_sound (by
 intro x hx
 simp at hx
 rcases hx with rfl | rfl
 ·exact co_ok
 ·exact co_ok')
theorem w0_ok:w0C.Ok Try.prog:=by
 refine ⟨by kernel_rfl,fun x k hk=>?_⟩
 simp only [w0C] at hk
 split at hk
 ·rename_i a b c d e f g h
  exact ⟨_,plainD nilS_cs nilS_x nilS_ic (g0_true ⟨a,b,c,d,e,f,g,h⟩) (by simp [plainS,plainS.plainL]),hk⟩
 ·exact hk.elim
theorem w1_ok:w1C.Ok Try.prog:=by
 refine ⟨by kernel_rfl,fun x k hk=>?_⟩
 simp only [w1C] at hk
 split at hk
 ·rename_i a b c d e f g h
  exact ⟨_,plainD nilS_cs nilS_x nilS_ic (g1_true ⟨a,b,c,d,e,f,g,h⟩) (by simp [plainS,plainS.plainL]),hk⟩
 ·exact hk.elim
theorem w2_ok:w2C.Ok Try.prog:=by
 refine ⟨by kernel_rfl,fun x k hk=>?_⟩
 simp only [w2C] at hk
 split at hk
 ·rename_i a b c d e f g h
  exact ⟨_,plainD nilS_cs nilS_x nilS_ic (g2_true ⟨a,b,c,d,e,f,g,h⟩) (by simp [plainS,plainS.plainL]),hk⟩
 ·exact hk.elim
theorem w3_ok:w3C.Ok Try.prog:=by
 refine ⟨by kernel_rfl,fun x k hk=>?_⟩
 simp only [w3C] at hk
 split at hk
 ·rename_i a b c d e f g h
  exact ⟨_,plainD nilS_cs nilS_x nilS_ic (g3_true ⟨a,b,c,d,e,f,g,h⟩) (by simp [plainS,plainS.plainL]),hk⟩
 ·exact hk.elim
theorem csW_sound:SoundS Try.prog csW:=ctrs_sound (by
 intro x hx
 simp at hx
 rcases hx with rfl | rfl | rfl | rfl
 ·exact w0_ok
 ·exact w1_ok
 ·exact w2_ok
 ·exact w3_ok)
theorem soX_sound {γ:GS→noGhost.S} (r n w:Nat) (g:Nat→Gr) (X:(Nat→Gr)→XS):SoundXH Try.prog noGhost γ (soX r n w g X):=by
 unfold soX
 exact inl_sound csS_sound (inl_sound csS_sound (inl_sound csS_sound nilS_x (ys:=none) trivial nilS_ic mixed) (ys:=none) trivial nilS_ic mixed) (ys:=none) trivial nilS_ic mixed
theorem gr_all {w:Nat} {C:Cl} (hw:w<4) (hC:C.n≤6):grG w C:=by
 match w,hw with
 | 0,_=>exact (show gr0 C by rw [gr0_vc]; exact gr_true hC)
 | 1,_=>exact (show gr1 C by rw [gr1_vc]; exact gr_true hC)
 | 2,_=>exact (show gr2 C by rw [gr2_vc]; exact gr_true hC)
 | 3,_=>exact (show gr3 C by rw [gr3_vc]; exact gr_true hC)
noncomputable def grC:Ctr:=⟨41,fun args k=>match args with
 | [.lst 8 n f,.val v]=>SV.lst 8 n f=(clOf n f).sv∧n≤6∧∃ z:Nat,z<4∧SV.val v=fv (60+z)∧k (grR z (clOf n f))
 | _=>False⟩
theorem gr_ok:grC.Ok Try.prog:=by
 refine ⟨by kernel_rfl,fun x k hk=>?_⟩
 simp only [grC] at hk
 split at hk
 ·rename_i n f v
  obtain ⟨hf,hn,z,hz,hv,hk⟩:=hk
  have hh:=gr_all (w:=z) (C:=clOf n f) hz hn
  unfold grG at hh
  rw [← hf,← hv] at hh
  refine ⟨_,newD csW_sound (altX_sound (soX_sound _ _ _ _ _) (soX_sound _ _ _ _ _)) nilS_ic hh (by simp [flatS,flatSL,scS,SV.cells,grL,Gr.sv,grR]),hk⟩
 ·exact hk.elim
end Go.Proofs.Ytfiaadlgfjokjaa

namespace Go.Proofs.Ytfiaadlgfjokjaa
open Go Go.Lg
attribute [local irreducible] bodyH funS
noncomputable def flR (p:Pn) (f:Nat→Gr):Nat→Int
 | 0=>p.tn
 | k+1=>flR p f k - min (flR p f k) (p.l.at (f k).co.toNat)
noncomputable def flG (p:Pn) (f:Nat→Gr):Nat→Int
 | 0=>0
 | k+1=>flG p f k+min (flR p f k) (p.l.at (f k).co.toNat)*(f k).gv
structure okGr (n:Nat) (f:Nat→Gr):Prop where
 m:n≤6
 h:∀ i,i<n→0≤(f i).co∧(f i).co<6∧0≤(f i).gv∧(f i).gv≤100000
def gfOf (f:Nat→SV) (i:Nat):Gr:=grOf (f i)
noncomputable def fiC:Ctr:=⟨43,fun args k=>match args with
 | [.agg [.int .i64 a,.int .i64 b,.int .i64 c,.int .i64 d,.int .i64 e,.int .i64 f,.int .i64 g,.int .i64 h,.int .i64 u,.int .i64 t],.lst 2 n z]=>SV.lst 2 n z=grL n (gfOf z)∧okP ⟨⟨a,b,c,d,e,f,g,h⟩,u,t⟩∧okGr n (gfOf z)∧k (i6 (flG ⟨⟨a,b,c,d,e,f,g,h⟩,u,t⟩ (gfOf z) n))
 | _=>False⟩
noncomputable def fiG (p:Pn) (n:Nat) (f:Nat→Gr):Prop:=funH Try.prog (ctrs []) noX (ictrs [])
 (oneL 0 (natH (fun k=>k≤n) (fun k=>n - k) 1 (fun k=>mkF 37 [(2,.ptr 0 0 0),(5,i6 (flG p f k)),(6,i6 (flR p f k)),(12,grL n f),(13,i6 n),(14,i6 k)]) (fun k=>mkX [vr 10 p.sv]) fun _=>none)) noL 43 [p.sv,grL n f] (i6 (flG p f n))
open Classical in
noncomputable def ylE (Y:Yd) (a b w:Int):Int:=if drE Y a b=0 then (if w<0∨3<w then 2 else 0) else drE Y a b
noncomputable def ylP (Y:Yd) (a b:Int):List Pn:=poS' Y.m (drS Y a b)
noncomputable def ylJ (Y:Yd) (a b:Int) (w j:Nat):Tw:=⟨sumJ (fun i=>flG ((ylP Y a b).getD i zP) (stA w Y.c) Y.c.n) j,sumJ (fun i=>flG ((ylP Y a b).getD i zP) (stB w Y.c) Y.c.n) j⟩
open Classical in
noncomputable def ylS (Y:Yd) (a b w:Int):Tw:=if ylE Y a b w=0 then ylJ Y a b w.toNat (ylP Y a b).length else ⟨0,0⟩
noncomputable def ylR (Y:Yd) (a b w:Int):SV:=.tup [(ylS Y a b w).sv,i6 (ylE Y a b w)]
noncomputable def csY:CSpec:=ctrs [drC,gdC,grC,poC,fiC,plC]
noncomputable def ylC:Ctr:=⟨18,fun args k=>match args with
 | [.agg [.lst 8 n f,.lst 3 m g],.int .i64 a,.int .i64 b,.int .i64 w]=>SV.lst 8 n f=(clOf n f).sv∧SV.lst 3 m g=(msOf m g).sv∧k (ylR ⟨clOf n f,msOf m g⟩ a b w)
 | _=>False⟩
structure ylI (Y:Yd) (a b w:Int) (k:Nat):Prop where
 e:drE Y a b=0
 w0:0≤w
 w3:w≤3
 k:k≤(ylP Y a b).length
noncomputable def ylG (Y:Yd) (a b w:Int):Prop:=funH Try.prog csY noX (ictrs [])
 (oneL 0 (natH (ylI Y a b w) (fun k=>(ylP Y a b).length - k) 4 (fun k=>mkF 68 [(4,.ptr 0 0 0),(8,.ptr 1 0 0),(10,.ptr 2 0 0),(12,grL Y.c.n (stA w.toNat Y.c)),(13,grL Y.c.n (stB w.toNat Y.c)),(14,.ptr 3 0 0),(47,lP (ylP Y a b)),(48,i6 (ylP Y a b).length),(49,i6 k)])
  (fun k=>mkX [vr 2 Y.sv,vr 2 (Tw.sv ⟨0,0⟩),vr 2 (drS Y a b).sv,vr 2 (ylJ Y a b w.toNat k).sv]) fun _=>none)) noL 18 [Y.sv,i6 a,i6 b,i6 w] (ylR Y a b w)
def eqT (n:Nat) (f g:Nat→Tw):Prop:=∀ i,i<n→(f i).lo=(g i).lo∧(f i).hi=(g i).hi
noncomputable def ltC (g:FuncId):Ctr:=⟨g,fun args k=>match args with
 | [.lst 2 n f,.lst 2 m h]=>SV.lst 2 n f=twL n (fun i=>tOf (f i))∧SV.lst 2 m h=twL m (fun i=>tOf (h i))∧n≤1000∧k (.dec (n=m∧eqT n (fun i=>tOf (f i)) fun i=>tOf (h i)) (Classical.propDecidable _))
 | _=>False⟩
noncomputable def ltG (n:Nat) (f:Nat→Tw) (m:Nat) (h:Nat→Tw):Prop:=funH Try.prog (ctrs []) noX (ictrs [])
 (oneL 0 (natH (fun k=>k≤n∧n=m∧eqT k f h) (fun k=>n - k) 0 (fun k=>mkF 26 [(0,twL n f),(1,twL m h),(5,i6 k)]) (fun _=>mkX []) fun _=>none)) noL 15 [twL n f,twL m h] (.dec (n=m∧eqT n f h) (Classical.propDecidable _))
noncomputable def ltG' (n:Nat) (f:Nat→Tw) (m:Nat) (h:Nat→Tw):Prop:=funH Try.prog (ctrs []) noX (ictrs [])
 (oneL 0 (natH (fun k=>k≤n∧n=m∧eqT k f h) (fun k=>n - k) 0 (fun k=>mkF 26 [(0,twL n f),(1,twL m h),(5,i6 k)]) (fun _=>mkX []) fun _=>none)) noL 20 [twL n f,twL m h] (.dec (n=m∧eqT n f h) (Classical.propDecidable _))
end Go.Proofs.Ytfiaadlgfjokjaa

set_option maxRecDepth 100000
namespace Go.Proofs.Ytfiaadlgfjokjaa
open Go Go.Lg
theorem fiG_vc (p:Pn) (n:Nat) (f:Nat→Gr):fiG p n f=((0:Nat)<(1:Nat)∧(∃ (z:Nat),z≤n∧rE (0:Nat)∧rE (0:Nat)∧(0:Int)=flG p f z∧p.3=flR p f z∧n=n∧(∀ (i:Nat),i<n→rE ((f i).sv.den)∧True∧True∧True)∧rE (↑n:Int)∧(0:Int)=(↑z:Int)∧rE p.l.1∧rE p.l.2∧rE p.l.3∧rE p.l.4∧rE p.l.5∧rE p.l.6∧rE p.l.7∧rE p.l.8∧p.2=p.2∧p.3=p.3∧True)∧∀ (z:Nat),z≤n→((↑z:Int)<(↑n:Int)→(0:Int)≤(↑z:Int)∧(↑z:Int)<(↑n:Int)∧(0:Nat)<(1:Nat)∧(0:Int)≤(f (↑z:Int).toNat).1∧(f (↑z:Int).toNat).1<(↑(6:Nat):Int)∧(0:Nat)<(1:Nat)∧(0:Nat)+(f (↑z:Int).toNat).1.toNat*(1:Nat)<(10:Nat)∧(0:Nat)<(1:Nat)∧rI (min (flR p f z) (cellZ p.sv.cells ((0:Nat)+(f (↑z:Int).toNat).1.toNat*(1:Nat)))*(f (↑z:Int).toNat).2)∧rI (flG p f z+min (flR p f z) (cellZ p.sv.cells ((0:Nat)+(f (↑z:Int).toNat).1.toNat*(1:Nat)))*(f (↑z:Int).toNat).2)∧rI (flR p f z - min (flR p f z) (cellZ p.sv.cells ((0:Nat)+(f (↑z:Int).toNat).1.toNat*(1:Nat))))∧rI ((↑z:Int)+(1:Int))∧∃ (z_1:Nat),z_1≤n∧n - z_1<n - z∧rE (0:Nat)∧rE (0:Nat)∧flG p f z+min (flR p f z) (cellZ p.sv.cells ((0:Nat)+(f (↑z:Int).toNat).1.toNat*(1:Nat)))*(f (↑z:Int).toNat).2=flG p f z_1∧flR p f z - min (flR p f z) (cellZ p.sv.cells ((0:Nat)+(f (↑z:Int).toNat).1.toNat*(1:Nat)))=flR p f z_1∧n=n ∧
(∀ (i:Nat),i<n→rE ((f i).sv.den)∧True∧True∧True)∧rE (↑n:Int)∧(↑z:Int)+(1:Int)=(↑z_1:Int)∧rE p.l.1∧rE p.l.2∧rE p.l.3∧rE p.l.4∧rE p.l.5∧rE p.l.6∧rE p.l.7∧rE p.l.8∧p.2=p.2∧p.3=p.3∧True)∧(¬(↑z:Int)<(↑n:Int)→flG p f z=flG p f n∧True)):=by kernel_rfl
def ylG0 (Y:Yd) (a:Int) (b:Int) (w:Int) (z:Nat):Prop:=((↑z:Int)<(↑(ylP Y a b).length:Int)→(0:Int)≤(↑z:Int)∧(↑z:Int)<(↑(ylP Y a b).length:Int)∧(0:Nat)<(1:Nat)∧(0:Nat)<(1:Nat)∧(∀ (i:Nat),i<Y.c.1→True∧True∧True)∧(SV.lst (2:Nat) Y.c.n fun i=>(stA w.toNat Y.c i).sv)=grL Y.c.n (gfOf fun i=>(stA w.toNat Y.c i).sv)∧okP (Pn.mk (La.mk ((ylP Y a b).getD (↑z:Int).toNat zP).l.c0 ((ylP Y a b).getD (↑z:Int).toNat zP).l.c1 ((ylP Y a b).getD (↑z:Int).toNat zP).l.c2 ((ylP Y a b).getD (↑z:Int).toNat zP).l.c3 ((ylP Y a b).getD (↑z:Int).toNat zP).l.c4 ((ylP Y a b).getD (↑z:Int).toNat zP).l.c5 ((ylP Y a b).getD (↑z:Int).toNat zP).l.fr ((ylP Y a b).getD (↑z:Int).toNat zP).l.to) ((ylP Y a b).getD (↑z:Int).toNat zP).nu ((ylP Y a b).getD (↑z:Int).toNat zP).tn)∧okGr Y.c.n (gfOf fun i=>(stA w.toNat Y.c i).sv)∧(0:Nat)<(1:Nat)∧(∀ (i:Nat),i<Y.c.1→True∧True∧True)∧(SV.lst (2:Nat) Y.c.n fun i=>(stB w.toNat Y.c i).sv)=grL Y.c.n (gfOf fun i=>(stB w.toNat Y.c i).sv)∧okP (Pn.mk (La.mk ((ylP Y a b).getD (↑z:Int).toNat zP).l.c0 ((ylP Y a b).getD (↑z:Int).toNat zP).l.c1 ((ylP Y a b).getD (↑z:Int).toNat zP).l.c2 ((ylP Y a b).getD (↑z:Int).toNat zP).l.c3 ((ylP Y a b).getD (↑z:Int).toNat zP).l.c4 ((ylP Y a b).getD (↑z:Int).toNat zP).l.c5 ((ylP Y a b).getD (↑z:Int).toNat zP).l.fr ((ylP Y a b).getD (↑z:Int).toNat zP).l.to) ((ylP Y a b).getD (↑z:Int).toNat zP).nu ((ylP Y a b).getD (↑z:Int).toNat zP).tn)∧okGr Y.c.n (gfOf fun i=>(stB w.toNat Y.c i).sv)∧(rI ((ylJ Y a b w.toNat z).lo+flG (Pn.mk (La.mk ((ylP Y a b).getD (↑z:Int).toNat zP).l.c0 ((ylP Y a b).getD (↑z:Int).toNat zP).l.c1 ((ylP Y a b).getD (↑z:Int).toNat zP).l.c2 ((ylP Y a b).getD (↑z:Int).toNat zP).l.c3 ((ylP Y a b).getD (↑z:Int).toNat zP).l.c4 ((ylP Y a b).getD (↑z:Int).toNat zP).l.c5 ((ylP Y a b).getD (↑z:Int).toNat zP).l.fr ((ylP Y a b).getD (↑z:Int).toNat zP).l.to) ((ylP Y a b).getD (↑z:Int).toNat zP).nu ((ylP Y a b).getD (↑z:Int).toNat zP).tn) (gfOf fun i=>(stA w.toNat Y.c i).sv) Y.c.n)∧rI ((ylJ Y a b w.toNat z).hi+flG (Pn.mk (La.mk ((ylP Y a b).getD (↑z:Int).toNat zP).l.c0 ((ylP Y a b).getD (↑z:Int).toNat zP).l.c1 ((ylP Y a b).getD (↑z:Int).toNat zP).l.c2 ((ylP Y a b).getD (↑z:Int).toNat zP).l.c3 ((ylP Y a b).getD (↑z:Int).toNat zP).l.c4 ((ylP Y a b).getD (↑z:Int).toNat zP).l.c5 ((ylP Y a b).getD (↑z:Int).toNat zP).l.fr ((ylP Y a b).getD (↑z:Int).toNat zP).l.to) ((ylP Y a b).getD (↑z:Int).toNat zP).nu ((ylP Y a b).getD (↑z:Int).toNat zP).tn) (gfOf fun i=>(stB w.toNat Y.c i).sv) Y.c.n))∧rI ((↑z:Int)+(1:Int))∧∃ (z_1:Nat),ylI Y a b w z_1∧(ylP Y a b).length - z_1<(ylP Y a b).length - z∧rE (0:Nat)∧rE (0:Nat)∧rE (0:Nat)∧rE (0:Nat)∧rE (0:Nat)∧rE (0:Nat)∧rE Y.c.1∧(∀ (i:Nat),i<Y.c.1→rE ((stA w.toNat Y.c i).sv.den)∧True∧True∧True)∧rE Y.c.1∧(∀ (i:Nat),i<Y.c.1→rE ((stB w.toNat Y.c i).sv.den)∧True∧True∧True)∧rE (0:Nat)∧rE (0:Nat)∧rE ((ylP Y a b).length)∧(∀ (i:Nat),i<(ylP Y a b).length→rE (((ylP Y a b).getD i zP).sv.den)∧True∧True∧True∧True∧True∧True∧True∧True∧True∧True∧True)∧rE (↑(ylP Y a b).length:Int)∧(↑z:Int)+(1:Int)=(↑z_1:Int)∧rE Y.c.1∧(∀ (i:Nat),i<Y.c.1→rE ((Y.c.f i).sv.den)∧True∧True∧True∧True∧True∧True∧True∧True∧True)∧rE Y.m.1∧(∀ (i:Nat),i<Y.m.1→rE ((Y.m.f i).sv.den)∧True∧True∧True∧True)∧rE (0:Int)∧rE (0:Int)∧rE ((drS Y a b).1)∧rE ((drS Y a b).2)∧sumJ (fun i=>flG ((ylP Y a b).getD i zP) (stA w.toNat Y.c) Y.c.n) z+flG (Pn.mk (La.mk ((ylP Y a b).getD (↑z:Int).toNat zP).l.c0 ((ylP Y a b).getD (↑z:Int).toNat zP).l.c1 ((ylP Y a b).getD (↑z:Int).toNat zP).l.c2 ((ylP Y a b).getD (↑z:Int).toNat zP).l.c3 ((ylP Y a b).getD (↑z:Int).toNat zP).l.c4 ((ylP Y a b).getD (↑z:Int).toNat zP).l.c5 ((ylP Y a b).getD (↑z:Int).toNat zP).l.fr ((ylP Y a b).getD (↑z:Int).toNat zP).l.to) ((ylP Y a b).getD (↑z:Int).toNat zP).nu ((ylP Y a b).getD (↑z:Int).toNat zP).tn) (gfOf fun i=>(stA w.toNat Y.c i).sv) Y.c.1=sumJ (fun i=>flG ((ylP Y a b).getD i zP) (stA w.toNat Y.c) Y.c.n) z_1∧sumJ (fun i=>flG ((ylP Y a b).getD i zP) (stB w.toNat Y.c) Y.c.n) z+flG (Pn.mk (La.mk ((ylP Y a b).getD (↑z:Int).toNat zP).l.c0 ((ylP Y a b).getD (↑z:Int).toNat zP).l.c1 ((ylP Y a b).getD (↑z:Int).toNat zP).l.c2 ((ylP Y a b).getD (↑z:Int).toNat zP).l.c3 ((ylP Y a b).getD (↑z:Int).toNat zP).l.c4 ((ylP Y a b).getD (↑z:Int).toNat zP).l.c5 ((ylP Y a b).getD (↑z:Int).toNat zP).l.fr ((ylP Y a b).getD (↑z:Int).toNat zP).l.to) ((ylP Y a b).getD (↑z:Int).toNat zP).nu ((ylP Y a b).getD (↑z:Int).toNat zP).tn) (gfOf fun i=>(stB w.toNat Y.c i).sv) Y.c.1=sumJ (fun i=>flG ((ylP Y a b).getD i zP) (stB w.toNat Y.c) Y.c.n) z_1∧True)
def ylG1 (Y:Yd) (a:Int) (b:Int) (w:Int) (z:Nat):Prop:=(∃ (z_1:Nat),ylI Y a b w z_1∧rE (0:Nat)∧rE (0:Nat)∧rE (0:Nat)∧rE (0:Nat)∧rE (0:Nat)∧rE (0:Nat)∧rE Y.c.1∧(∀ (i_2:Nat),i_2<Y.c.1→(stA z Y.c i_2).sv.den=(stA w.toNat Y.c i_2).sv.den∧True∧True∧True)∧rE Y.c.1∧(∀ (i_2:Nat),i_2<Y.c.1→(stB z Y.c i_2).sv.den=(stB w.toNat Y.c i_2).sv.den∧True∧True∧True)∧rE (0:Nat)∧rE (0:Nat)∧(poM Y.m (Tw.mk (drS Y a b).lo (drS Y a b).hi) (lyL Y.m Y.m.n).length).length=(ylP Y a b).length∧(∀ (i:Nat),i<(ylP Y a b).length→((poM Y.m (Tw.mk (drS Y a b).lo (drS Y a b).hi) (lyL Y.m Y.m.n).length).getD i zP).sv.den=((ylP Y a b).getD i zP).sv.den∧True∧True∧True∧True∧True∧True∧True∧True∧True∧True∧True)∧(↑(poM Y.m (Tw.mk (drS Y a b).lo (drS Y a b).hi) (lyL Y.m Y.m.n).length).length:Int)=(↑(ylP Y a b).length:Int)∧(0:Int)=(↑z_1:Int)∧rE Y.c.1∧(∀ (i:Nat),i<Y.c.1→rE ((Y.c.f i).sv.den)∧True∧True∧True∧True∧True∧True∧True∧True∧True)∧rE Y.m.1∧(∀ (i:Nat),i<Y.m.1→rE ((Y.m.f i).sv.den)∧True∧True∧True∧True)∧rE (0:Int)∧rE (0:Int)∧(drS Y a b).1=(drS Y a b).1∧(drS Y a b).2=(drS Y a b).2∧(0:Int)=sumJ (fun i=>flG ((ylP Y a b).getD i zP) (stA w.toNat Y.c) Y.c.n) z_1∧(0:Int)=sumJ (fun i=>flG ((ylP Y a b).getD i zP) (stB w.toNat Y.c) Y.c.n) z_1∧True)
def ylG2 (Y:Yd) (a:Int) (b:Int) (w:Int) (z:Nat):Prop:=(¬(↑z:Int)<(↑(ylP Y a b).length:Int)→(0:Nat)<(1:Nat)∧(0:Nat)<(1:Nat)∧(0:Nat)<(1:Nat)∧sumJ (fun i=>flG ((ylP Y a b).getD i zP) (stA w.toNat Y.c) Y.c.n) z=(ylS Y a b w).1∧sumJ (fun i=>flG ((ylP Y a b).getD i zP) (stB w.toNat Y.c) Y.c.n) z=(ylS Y a b w).2∧(0:Int)=ylE Y a b w∧True)
def ylG3 (Y:Yd) (a:Int) (b:Int):Prop:=((-1000000000:Int)≤(drS Y a b).1∧(drS Y a b).1≤(1000000000:Int)∧(-1000000000:Int)≤(drS Y a b).2∧(drS Y a b).2≤(1000000000:Int))
theorem ylG_vc (Y:Yd) (a:Int) (b:Int) (w:Int):ylG Y a b w=((0:Nat)<(1:Nat)∧tA Y∧tB Y∧tC Y∧tD Y∧(¬drE Y a b=(0:Int)→(0:Nat)<(1:Nat)∧(0:Int)=(ylS Y a b w).1∧(0:Int)=(ylS Y a b w).2∧drE Y a b=ylE Y a b w∧True)∧(¬¬drE Y a b=(0:Int)→(w<(0:Int)→(0:Nat)<(1:Nat)∧(0:Int)=(ylS Y a b w).1∧(0:Int)=(ylS Y a b w).2∧(2:Int)=ylE Y a b w∧True)∧(¬w<(0:Int)→((3:Int)<w→(0:Nat)<(1:Nat)∧(0:Int)=(ylS Y a b w).1∧(0:Int)=(ylS Y a b w).2∧(2:Int)=ylE Y a b w∧True)∧(¬(3:Int)<w→(0:Nat)<(1:Nat)∧(0:Int)≤w∧w<(↑(4:Nat):Int)∧w.toNat*(1:Nat)<(4:Nat)∧(((True∧(w.toNat*(1:Nat)=(0:Nat)→tA Y∧Y.c.sv=Y.c.sv∧Y.c.1≤(6:Nat)∧∃ (z:Nat),z<(4:Nat)∧SV.val (Value.func (Fn.func (60:Nat)) #[] #[])=fv ((60:Nat)+z)∧(0:Nat)<(1:Nat)∧(0:Nat)<(1:Nat)∧tB Y∧Y.m.sv=Y.m.sv∧lyP
Y.m∧(ylG3 Y a b)∧(ylG1 Y a b w z)∧∀ (z:Nat),ylI Y a b w z→(ylG0 Y a b w z)∧(ylG2 Y a b w z)))∧(w.toNat*(1:Nat)=(1:Nat)→tA Y∧Y.c.sv=Y.c.sv∧Y.c.1≤(6:Nat)∧∃ (z:Nat),z<(4:Nat)∧SV.val (Value.func (Fn.func (61:Nat)) #[] #[])=fv ((60:Nat)+z)∧(0:Nat)<(1:Nat)∧(0:Nat)<(1:Nat)∧tB Y∧Y.m.sv=Y.m.sv∧lyP Y.m∧(ylG3 Y a b)∧(ylG1 Y a b w z)∧∀ (z:Nat),ylI Y a b w z→(ylG0 Y a b w z)∧(ylG2 Y a b w z)))∧(w.toNat*(1:Nat)=(2:Nat)→tA Y∧Y.c.sv=Y.c.sv∧Y.c.1≤(6:Nat)∧∃ (z:Nat),z<(4:Nat)∧SV.val (Value.func (Fn.func (62:Nat)) #[] #[])=fv ((60:Nat)+z)∧(0:Nat)<(1:Nat)∧(0:Nat)<(1:Nat)∧tB Y∧Y.m.sv=Y.m.sv∧lyP Y.m∧(ylG3 Y a b)∧(ylG1 Y a b w z)∧∀ (z:Nat),ylI Y a b w z→(ylG0 Y a b w z)∧(ylG2 Y a b w z)))∧(w.toNat*(1:Nat)=(3:Nat)→tA Y∧Y.c.sv =
Y.c.sv∧Y.c.1≤(6:Nat)∧∃ (z:Nat),z<(4:Nat)∧SV.val (Value.func (Fn.func (63:Nat)) #[] #[])=fv ((60:Nat)+z)∧(0:Nat)<(1:Nat)∧(0:Nat)<(1:Nat)∧tB Y∧Y.m.sv=Y.m.sv∧lyP Y.m∧(ylG3 Y a b)∧(ylG1 Y a b w z)∧∀ (z:Nat),ylI Y a b w z→(ylG0 Y a b w z)∧(ylG2 Y a b w z)))))):=by kernel_rfl
theorem ltG_vc (n:Nat) (f:Nat→Tw) (m:Nat) (h:Nat→Tw):ltG n f m h=((¬(↑n:Int)=(↑m:Int)→(false=true↔n=m∧eqT n f h)∧True)∧(¬¬(↑n:Int)=(↑m:Int)→(∃ (z:Nat),(z≤n∧n=m∧eqT z f h)∧n=n∧(∀ (i:Nat),i<n→rE ((f i).sv.den)∧True∧True∧True)∧m=m∧(∀ (i:Nat),i<m→rE ((h i).sv.den)∧True∧True∧True)∧(0:Int)=(↑z:Int)∧True)∧∀ (z:Nat),z≤n∧n=m∧eqT z f h→((↑z:Int)<(↑n:Int)→(0:Int)≤(↑z:Int)∧(↑z:Int)<(↑n:Int)∧(0:Int)≤(↑z:Int)∧(↑z:Int)<(↑m:Int)∧(¬((f (↑z:Int).toNat).1=(h (↑z:Int).toNat).1∧(f (↑z:Int).toNat).2=(h (↑z:Int).toNat).2)→(false=true↔n=m∧eqT n f h)∧True)∧(¬¬((f (↑z:Int).toNat).1=(h (↑z:Int).toNat).1∧(f (↑z:Int).toNat).2=(h (↑z:Int).toNat).2)→rI ((↑z:Int)+(1:Int))∧∃ (z_1:Nat),(z_1≤n∧n=m∧eqT z_1 f h)∧n - z_1<n - z∧n=n∧(∀ (i:Nat),i<n→rE ((f i).sv.den)∧True∧True∧True)∧m=m∧(∀ (i:Nat),i<m→rE ((h i).sv.den)∧True∧True∧True)∧(↑z:Int)+(1:Int)=(↑z_1:Int)∧True))∧(¬(↑z:Int)<(↑n:Int)→(rE true↔n=m∧eqT n f h)∧True))):=by kernel_rfl
theorem ltG'_vc (n:Nat) (f:Nat→Tw) (m:Nat) (h:Nat→Tw):ltG' n f m h=((¬(↑n:Int)=(↑m:Int)→(false=true↔n=m∧eqT n f h)∧True)∧(¬¬(↑n:Int)=(↑m:Int)→(∃ (z:Nat),(z≤n∧n=m∧eqT z f h)∧n=n∧(∀ (i:Nat),i<n→rE ((f i).sv.den)∧True∧True∧True)∧m=m∧(∀ (i:Nat),i<m→rE ((h i).sv.den)∧True∧True∧True)∧(0:Int)=(↑z:Int)∧True)∧∀ (z:Nat),z≤n∧n=m∧eqT z f h→((↑z:Int)<(↑n:Int)→(0:Int)≤(↑z:Int)∧(↑z:Int)<(↑n:Int)∧(0:Int)≤(↑z:Int)∧(↑z:Int)<(↑m:Int)∧(¬((f (↑z:Int).toNat).1=(h (↑z:Int).toNat).1∧(f (↑z:Int).toNat).2=(h (↑z:Int).toNat).2)→(false=true↔n=m∧eqT n f h)∧True)∧(¬¬((f (↑z:Int).toNat).1=(h (↑z:Int).toNat).1∧(f (↑z:Int).toNat).2=(h (↑z:Int).toNat).2)→rI ((↑z:Int)+(1:Int))∧∃ (z_1:Nat),(z_1≤n∧n=m∧eqT z_1 f h)∧n - z_1<n - z∧n=n∧(∀ (i:Nat),i<n→rE ((f i).sv.den)∧True∧True∧True)∧m=m∧(∀ (i:Nat),i<m→rE ((h i).sv.den)∧True∧True∧True)∧(↑z:Int)+(1:Int)=(↑z_1:Int)∧True))∧(¬(↑z:Int)<(↑n:Int)→(rE true↔n=m∧eqT n f h)∧True))):=by kernel_rfl
end Go.Proofs.Ytfiaadlgfjokjaa

set_option maxRecDepth 100000
namespace Go.Proofs.Ytfiaadlgfjokjaa
open Go Go.Lg
attribute [local irreducible] funS bodyH
theorem mul_bd {t g T G:Int} (h1:0≤t) (h2:t≤T) (h3:0≤g) (h4:g≤G):0≤t*g∧t*g≤T*G :=
 ⟨Int.mul_nonneg h1 h3,Int.mul_le_mul h2 h4 h3 (by omega)⟩
theorem fl_bd {p:Pn} {n:Nat} {f:Nat→Gr} (hp:okP p) (hf:okGr n f):∀ k,k≤n→(0≤flR p f k∧flR p f k≤33554432)∧0≤flG p f k∧flG p f k≤k*3355443200000
 | 0,_=>⟨hp.t,by simp [flG]⟩
 | k+1,hk=>by
  have ih:=fl_bd hp hf k (by omega)
  have g:=hf.h k (by omega)
  have c:=cell_bd hp.l (i:=(f k).co.toNat) (by omega)
  have e2:p.l.at (f k).co.toNat=cellZ p.l.sv.cells (f k).co.toNat:=rfl
  rw [← e2] at c
  have m:=mul_bd (t:=min (flR p f k) (p.l.at (f k).co.toNat)) (g:=(f k).gv) (T:=33554432) (G:=100000) (by omega) (by omega) g.2.2.1 g.2.2.2
  simp only [flR,flG]
  have e:(((k+1:Nat):Int))*3355443200000=k*3355443200000+3355443200000:=by push_cast; omega
  rw [e]
  omega
theorem fi_true {p:Pn} {n:Nat} {f:Nat→Gr} (hp:okP p) (hf:okGr n f):fiG p n f:=by
 rw [fiG_vc]
 have e:∀ i,cellZ ((SRow.v (Try.prog.cellsOf 86) (sev (Nat.succ 36) (frmS (Nat.succ 36) [p.sv,grL n f] 0 Tr.nil) (Operand.tmp 0))).f 0).cells i=cellZ p.sv.cells i:=fun i=>rfl
 simp only [rI,rE,tt3,tt4,tt5,tt13,tt14,rI,rE,tA,tB,tC,tD,tt3,tt4,tt5,tt13,tt14,and_true,true_and,Nat.zero_lt_one,and_self,implies_true,Int.toNat_natCast,Nat.zero_add,Nat.add_zero,Nat.one_mul,Nat.mul_one,Classical.not_not,iff_self,Bool.false_eq_true,imp_false,and_imp,true_implies,forall_const,e]
 refine ⟨⟨0,by omega,rfl,rfl,rfl⟩,fun z hz=>⟨fun hl=>?_,fun hl=>?_⟩⟩
 ·have hz:z<n:=by omega
  have g:=hf.h z hz
  rw [at_eq p (by omega)]
  have b:=fl_bd hp hf z (by omega)
  have b2:=fl_bd hp hf (z+1) (by omega)
  have hn:=hf.m
  have c:=cell_bd hp.l (i:=(f z).co.toNat) (by omega)
  have e2:p.l.at (f z).co.toNat=cellZ p.l.sv.cells (f z).co.toNat:=rfl
  rw [← e2] at c
  have m:=mul_bd (t:=min (flR p f z) (p.l.at (f z).co.toNat)) (g:=(f z).gv) (T:=33554432) (G:=100000) (by omega) (by omega) g.2.2.1 g.2.2.2
  exact ⟨by omega,hl,g.1,by omega,by omega,by omega,by omega,by omega,by omega,z+1,by omega,by omega,rfl,rfl,by omega⟩
 ·have:z=n:=by omega
  subst this; rfl
theorem fi_ok:fiC.Ok Try.prog:=by
 refine ⟨by kernel_rfl,fun x k hk=>?_⟩
 simp only [fiC] at hk
 split at hk
 ·rename_i a b c d e f g h u t n z
  obtain ⟨hf,h1,h2,hk⟩:=hk
  have hh:=fi_true (p:=⟨⟨a,b,c,d,e,f,g,h⟩,u,t⟩) h1 h2
  unfold fiG at hh
  rw [← hf] at hh
  exact ⟨_,plainD nilS_cs nilS_x nilS_ic hh trivial,hk⟩
 ·exact hk.elim
theorem swp_bd {P:Gr→Prop} {f:Nat→Gr} {q j:Nat} (h:∀ k,k<q→P (f k)) (hj:j<q):∀ k,k<q→P (swp f j k):=fun k hk=>by
 unfold swp
 split
 ·exact h j hj
 ·split
  ·exact h _ (by omega)
  ·exact h k hk
theorem inF_bd {P:Gr→Prop} {w q:Nat}:∀ {j:Nat} {f:Nat→Gr},(∀ k,k<q→P (f k))→j<q→∀ k,k<q→P (inF w f j k)
 | 0,f,h,_,k,hk=>h k hk
 | j+1,f,h,hj,k,hk=>by
  simp only [inF]
  split
  ·exact inF_bd (swp_bd h hj) (by omega) k hk
  ·exact h k hk
theorem stF_bd {P:Gr→Prop} {w q:Nat} {g:Nat→Gr} (h:∀ k,k<q→P (g k)):∀ i,i≤q→∀ k,k<q→P (stF w g i k)
 | 0,_,k,hk=>h k hk
 | i+1,hi,k,hk=>by
  simp only [stF]
  exact inF_bd (fun k hk=>stF_bd h i (by omega) k hk) (by omega) k hk
theorem sp_ok {w:Nat} {c:Co} (h:okCo c):okSp (spT w c).lo (spT w c).hi:=by
 match w with
 | 0=>exact h.g
 | 1=>exact h.t
 | 2=>exact h.s
 | _+3=>exact h.k
theorem st_ok {w:Nat} {C:Cl} (h:okCl C):okGr C.n (stA w C)∧okGr C.n (stB w C):=by
 have hn:=h.b
 refine ⟨⟨h.b,fun i hi=>stF_bd (P:=fun g=>0≤g.co∧g.co<6∧0≤g.gv∧g.gv≤100000) (fun k hk=>?_) C.n (Nat.le_refl _) i hi⟩,⟨h.b,fun i hi=>stF_bd (P:=fun g=>0≤g.co∧g.co<6∧0≤g.gv∧g.gv≤100000) (fun k hk=>?_) C.n (Nat.le_refl _) i hi⟩⟩
 ·have s:=sp_ok (w:=w) (h.h k hk)
  have a:=s.a
  have b:=s.b
  have c:=s.c
  simp only [gA]; omega
 ·have s:=sp_ok (w:=w) (h.h k hk)
  have a:=s.a
  have b:=s.b
  have c:=s.c
  simp only [gB]; omega
theorem ylE_e {Y:Yd} {a b w:Int} (h:drE Y a b≠0):ylE Y a b w=drE Y a b:=if_neg h
theorem ylE_2 {Y:Yd} {a b w:Int} (h:drE Y a b=0) (h2:w<0∨3<w):ylE Y a b w=2:=by rw [ylE,if_pos h,if_pos h2]
theorem ylE_0 {Y:Yd} {a b w:Int} (h:drE Y a b=0) (h2:¬ (w<0∨3<w)):ylE Y a b w=0:=by rw [ylE,if_pos h,if_neg h2]
theorem ylS_n {Y:Yd} {a b w:Int} (h:ylE Y a b w≠0):ylS Y a b w=⟨0,0⟩:=if_neg h
theorem ylS_y {Y:Yd} {a b w:Int} (h:ylE Y a b w=0):ylS Y a b w=ylJ Y a b w.toNat (ylP Y a b).length:=if_pos h
theorem yl_okP {Y:Yd} {a b:Int} (h:ckY Y=0) {p:Pn} (hp:p ∈ ylP Y a b):okP p:=(po_mem (ck_ly h) (lyN Y.m) (Nat.le_refl _) p hp).1
theorem ylJ_bd {Y:Yd} {a b:Int} {w:Nat} (h:ckY Y=0):∀ j,j≤(ylP Y a b).length→(0≤(ylJ Y a b w j).lo∧(ylJ Y a b w j).lo≤j*20132659200000)∧0≤(ylJ Y a b w j).hi∧(ylJ Y a b w j).hi≤j*20132659200000
 | 0,_=>by simp [ylJ,sumJ]
 | j+1,hj=>by
  have ih:=ylJ_bd (a:=a) (b:=b) (w:=w) h j (by omega)
  have hp:=yl_okP h (getD_mem (l:=ylP Y a b) (d:=zP) (i:=j) (by omega))
  have hc:=(ck_0 h).1
  have hn:=hc.b
  have f1:=fl_bd hp (st_ok (w:=w) hc).1 Y.c.n (Nat.le_refl _)
  have f2:=fl_bd hp (st_ok (w:=w) hc).2 Y.c.n (Nat.le_refl _)
  have e:(((j+1:Nat):Int))*20132659200000=j*20132659200000+20132659200000:=by push_cast; omega
  rw [e]
  simp only [ylJ,sumJ] at ih ⊢
  omega
theorem gf_fold (f:Nat→Gr):(gfOf fun i=>(f i).sv)=f:=rfl
theorem grl_fold (n:Nat) (f:Nat→Gr):(SV.lst 2 n fun i=>(f i).sv)=grL n f:=rfl
theorem yl_true (Y:Yd) (a b w:Int):ylG Y a b w:=by
 rw [ylG_vc]
 have e0:Yd.mk Y.c Y.m=Y:=rfl
 have e1:∀ t:Tw,Tw.mk t.lo t.hi=t:=fun t=>rfl
 have e2:∀ p:Pn,Pn.mk ⟨p.l.c0,p.l.c1,p.l.c2,p.l.c3,p.l.c4,p.l.c5,p.l.fr,p.l.to⟩ p.nu p.tn=p:=fun p=>rfl
 have e3:∀ l:La,La.mk l.c0 l.c1 l.c2 l.c3 l.c4 l.c5 l.fr l.to=l:=fun l=>rfl
 have e4:poM Y.m (drS Y a b) (lyL Y.m Y.m.n).length=ylP Y a b:=rfl
 simp only [ylG0,ylG1,ylG2,ylG3,rI,rE,tt3,tt4,tt5,tt13,tt14,rI,rE,tA,tB,tC,tD,tt3,tt4,tt5,tt13,tt14,and_true,true_and,Nat.zero_lt_one,and_self,implies_true,Int.toNat_natCast,Nat.zero_add,Nat.add_zero,Nat.one_mul,Nat.mul_one,Classical.not_not,iff_self,Bool.false_eq_true,imp_false,and_imp,true_implies,forall_const,ms_fold,cl_fold,mv_fold,cv_fold,e0,e1,e2,e3,e4,gf_fold,grl_fold]
 have bad:ylE Y a b w≠0→0=(ylS Y a b w).lo∧0=(ylS Y a b w).hi:=fun h=>by rw [ylS_n h]; exact ⟨rfl,rfl⟩
 refine ⟨fun h=>?_,fun h=>⟨fun h1=>?_,fun h1=>⟨fun h2=>?_,fun h2=>?_⟩⟩⟩
 ·have e:=ylE_e (w:=w) h
  exact ⟨(bad (by rw [e]; exact h)).1,(bad (by rw [e]; exact h)).2,e.symm⟩
 ·have e:=ylE_2 h (.inl h1)
  exact ⟨(bad (by rw [e]; omega)).1,(bad (by rw [e]; omega)).2,e.symm⟩
 ·have e:=ylE_2 h (.inr h2)
  exact ⟨(bad (by rw [e]; omega)).1,(bad (by rw [e]; omega)).2,e.symm⟩
 have e:=ylE_0 (w:=w) h (by omega)
 have eS:=ylS_y e
 have hck:=drE_ck h
 have hk:=ck_ly hck
 have hC:=(ck_0 hck).1
 have hn:=hC.b
 have hs:=st_ok (w:=w.toNat) hC
 have hlen:(ylP Y a b).length≤32:=po_len hk
 rw [eS,e]
 refine ⟨by omega,by omega,by omega,⟨⟨fun hw=>⟨hn,w.toNat,by omega,by rw [hw]; rfl,?_⟩,fun hw=>⟨hn,w.toNat,by omega,by rw [hw]; rfl,?_⟩⟩,fun hw=>⟨hn,w.toNat,by omega,by rw [hw]; rfl,?_⟩⟩,fun hw=>⟨hn,w.toNat,by omega,by rw [hw]; rfl,?_⟩⟩
 all_goals
  refine ⟨hk,drS_bd Y a b,⟨0,⟨h,by omega,by omega,by omega⟩,?_⟩,fun z hz=>⟨fun hl=>?_,fun hl=>?_⟩⟩
  ·and_intros <;> first | rfl | exact fun i hi=>rfl
  ·have hz':z<(ylP Y a b).length:=by omega
   have hp:=yl_okP hck (getD_mem (l:=ylP Y a b) (d:=zP) (i:=z) hz')
   have b1:=ylJ_bd (w:=w.toNat) (a:=a) (b:=b) hck z (by omega)
   have f1:=fl_bd hp hs.1 Y.c.n (Nat.le_refl _)
   have f2:=fl_bd hp hs.2 Y.c.n (Nat.le_refl _)
   have fin:ylI Y a b w (z+1):=⟨h,by omega,by omega,by omega⟩
   refine ⟨by omega,hl,?_⟩
   first
    | exact ⟨hp,hs.1,hp,hs.2,⟨by omega,by omega⟩,by omega,z+1,fin,by omega,by omega,rfl,rfl⟩
    | exact ⟨hp,hs.1,hs.2,⟨by omega,by omega⟩,by omega,z+1,fin,by omega,by omega,rfl,rfl⟩
  ·have hzk:=hz.k
   have:z=(ylP Y a b).length:=by omega
   subst this
   and_intros <;> rfl
theorem csY_sound:SoundS Try.prog csY:=ctrs_sound (by
 intro x hx
 simp at hx
 rcases hx with rfl | rfl | rfl | rfl | rfl | rfl
 ·exact dr_ok
 ·exact gd_ok
 ·exact gr_ok
 ·exact po_ok
 ·exact fi_ok
 ·exact pl_ok)
theorem yl_ok:ylC.Ok Try.prog:=by
 refine ⟨by kernel_rfl,fun x k hk=>?_⟩
 simp only [ylC] at hk
 split at hk
 ·rename_i n f m g a b w
  obtain ⟨h1,h2,hk⟩:=hk
  have hh:=yl_true ⟨clOf n f,msOf m g⟩ a b w
  unfold ylG at hh
  simp only [Yd.sv] at hh
  rw [← h1,← h2] at hh
  have hh:funH Try.prog csY noX (ictrs []) _ noL 18 [.agg [.lst 8 n f,.lst 3 m g],i6 a,i6 b,i6 w] _:=hh
  exact ⟨_,plainD csY_sound nilS_x nilS_ic hh (by simp [plainS,plainS.plainL,Tw.sv,ylR]),hk⟩
 ·exact hk.elim
theorem lt_core {n:Nat} {f:Nat→Tw} {m:Nat} {h:Nat→Tw} (hn:n≤1000):ltG n f m h∧ltG' n f m h:=by
 rw [ltG_vc,ltG'_vc]
 simp only [rI,rE,tA,tB,tC,tD,tt3,tt4,tt5,tt13,tt14,and_true,true_and,Nat.zero_lt_one,and_self,implies_true,Int.toNat_natCast,Nat.zero_add,Nat.add_zero,Nat.one_mul,Nat.mul_one,Classical.not_not,iff_self,Bool.false_eq_true,imp_false,and_imp,true_implies,forall_const]
 refine ⟨fun hne=>⟨False.elim,fun h2=>hne (by rw [h2.1])⟩,fun he=>⟨⟨0,⟨by omega,by omega,fun i hi=>by omega⟩,rfl⟩,fun z hz hnm hq=>⟨fun hl=>⟨by omega,hl,by omega,by omega,fun hx=>⟨False.elim,fun h2=>hx (h2.2 z (by omega))⟩,fun h1 h2=>⟨by omega,z+1,⟨by omega,hnm,fun i hi=>?_⟩,by omega,by omega⟩⟩,fun hl=>⟨fun _=>⟨hnm,fun i hi=>hq i (by omega)⟩,fun _=>trivial⟩⟩⟩⟩
 by_cases k:i<z
 ·exact hq i k
 ·have:i=z:=by omega
  subst this; exact ⟨h1,h2⟩
theorem lt_ok:(ltC 15).Ok Try.prog:=by
 refine ⟨by kernel_rfl,fun x k hk=>?_⟩
 simp only [ltC] at hk
 split at hk
 ·rename_i n f m h
  obtain ⟨h1,h2,hn,hk⟩:=hk
  have hh:=(lt_core (f:=fun i=>tOf (f i)) (m:=m) (h:=fun i=>tOf (h i)) hn).1
  unfold ltG at hh
  rw [← h1,← h2] at hh
  exact ⟨_,plainD nilS_cs nilS_x nilS_ic hh trivial,hk⟩
 ·exact hk.elim
theorem lt_ok':(ltC 20).Ok Try.prog:=by
 refine ⟨by kernel_rfl,fun x k hk=>?_⟩
 simp only [ltC] at hk
 split at hk
 ·rename_i n f m h
  obtain ⟨h1,h2,hn,hk⟩:=hk
  have hh:=(lt_core (f:=fun i=>tOf (f i)) (m:=m) (h:=fun i=>tOf (h i)) hn).2
  unfold ltG' at hh
  rw [← h1,← h2] at hh
  exact ⟨_,plainD nilS_cs nilS_x nilS_ic hh trivial,hk⟩
 ·exact hk.elim
end Go.Proofs.Ytfiaadlgfjokjaa
