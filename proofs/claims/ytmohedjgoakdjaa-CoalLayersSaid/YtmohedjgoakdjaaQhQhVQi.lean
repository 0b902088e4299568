import Derived.Test.YtmohedjgoakdjaaQeQfQfVQg
set_option linter.unusedVariables false
set_option linter.unusedSimpArgs false
namespace Go.Proofs.Ytmohedjgoakdjaa
open Go Go.Lg
attribute [local irreducible] bodyH funS
structure Gr where
  co : Int
  gv : Int
def Gr.sv (g : Gr) : SV := .agg [i6 g.co, i6 g.gv]
def grOf : SV → Gr
  | .agg [.int _ a, .int _ b] => ⟨a, b⟩
  | _ => ⟨0, 0⟩
def grL (n : Nat) (f : Nat → Gr) : SV := .lst 2 n fun i => (f i).sv
def spT (w : Nat) (c : Co) : Tw := match w with
  | 0 => ⟨c.g0, c.g1⟩
  | 1 => ⟨c.t0, c.t1⟩
  | 2 => ⟨c.s0, c.s1⟩
  | _ => ⟨c.k0, c.k1⟩
def cmpI (x y : Int) : Int := if x < y then -1 else if y < x then 1 else 0
def nanC : Ctr := ⟨71, fun args k => match args with
  | [.int .i64 a] => k (.bool false)
  | _ => False⟩
noncomputable def nanG (a : Int) : Prop := funH Try.prog (ctrs []) noX (ictrs []) noL noL 71 [i6 a] (.bool false)
def cpC : Ctr := ⟨58, fun args k => match args with
  | [.int .i64 a, .int .i64 b] => k (i6 (cmpI a b))
  | _ => False⟩
noncomputable def cpG (a b : Int) : Prop := funH Try.prog (ctrs [nanC]) noX (ictrs []) noL noL 58 [i6 a, i6 b] (i6 (cmpI a b))
def cmW (w : Nat) (a b : Gr) : Int := match w with
  | 0 => cmpI a.gv b.gv
  | _ => cmpI b.gv a.gv
def coC : Ctr := ⟨57, fun args k => match args with
  | [.agg [.int .i64 a, .int .i64 b], .agg [.int .i64 c, .int .i64 d]] => k (i6 (cmW 0 ⟨a, b⟩ ⟨c, d⟩))
  | _ => False⟩
def coC' : Ctr := ⟨59, fun args k => match args with
  | [.agg [.int .i64 a, .int .i64 b], .agg [.int .i64 c, .int .i64 d]] => k (i6 (cmW 1 ⟨a, b⟩ ⟨c, d⟩))
  | _ => False⟩
noncomputable def coG (a b : Gr) : Prop := funH Try.prog (ctrs [cpC]) noX (ictrs []) noL noL 57 [a.sv, b.sv] (i6 (cmW 0 a b))
noncomputable def coG' (a b : Gr) : Prop := funH Try.prog (ctrs [cpC]) noX (ictrs []) noL noL 59 [a.sv, b.sv] (i6 (cmW 1 a b))
def swp (f : Nat → Gr) (j : Nat) : Nat → Gr := fun k => if k = j - 1 then f j else if k = j then f (j - 1) else f k
open Classical in
noncomputable def inF (w : Nat) : (Nat → Gr) → Nat → (Nat → Gr)
  | f, 0 => f
  | f, j + 1 => if cmW w (f (j + 1)) (f j) < 0 then inF w (swp f (j + 1)) j else f
noncomputable def stF (w : Nat) (g : Nat → Gr) : Nat → (Nat → Gr)
  | 0 => g
  | i + 1 => inF w (stF w g i) i
noncomputable def rF1 (r : Nat) : FS → XS → (Nat × (Nat → Gr) → Prop) → Prop := fun t X k => match sget 53 t 8 with
  | .int _ a => (match X.row r with
    | some R => k (a.toNat, fun i => grOf (R.f i))
    | none => False)
  | _ => False
theorem rF1_ok (r : Nat) (t : FS) (X : XS) (k : Nat × (Nat → Gr) → Prop) (h : rF1 r t X k) : ∃ s, k s := by
  unfold rF1 at h
  split at h
  · split at h
    · exact ⟨_, h⟩
    · exact h.elim
  · exact h.elim
noncomputable def rF2 (r : Nat) : FS → XS → (Nat × Nat × (Nat → Gr) → Prop) → Prop := fun t X k => match sget 53 t 8 with
  | .int _ a => (match sget 53 t 9 with
    | .int _ b => (match X.row r with
      | some R => k (a.toNat, b.toNat, fun i => grOf (R.f i))
      | none => False)
    | _ => False)
  | _ => False
theorem rF2_ok (r : Nat) (t : FS) (X : XS) (k : Nat × Nat × (Nat → Gr) → Prop) (h : rF2 r t X k) : ∃ s, k s := by
  unfold rF2 at h
  split at h
  · split at h
    · split at h
      · exact ⟨_, h⟩
      · exact h.elim
    · exact h.elim
  · exact h.elim
noncomputable def rN8 : FS → XS → (Nat → Prop) → Prop := fun t _ k => match sget 53 t 8 with
  | .int _ a => k a.toNat
  | _ => False
noncomputable def rN9 : FS → XS → (Nat → Prop) → Prop := fun t _ k => match sget 53 t 8 with
  | .int _ a => (match sget 53 t 9 with
    | .int _ b => k (a.toNat * 64 + b.toNat)
    | _ => False)
  | _ => False
theorem rN9_ok (t : FS) (X : XS) (k : Nat → Prop) (h : rN9 t X k) : ∃ s, k s := by
  unfold rN9 at h
  split at h
  · split at h
    · exact ⟨_, h⟩
    · exact h.elim
  · exact h.elim
structure in1 (q w : Nat) (g : Nat → Gr) (x : Nat × (Nat → Gr)) : Prop where
  a : 1 ≤ x.1
  b : x.1 ≤ max 1 q
  f : ∀ k, k < q → x.2 k = stF w g x.1 k
structure in2 (q w : Nat) (g : Nat → Gr) (x : Nat × Nat × (Nat → Gr)) : Prop where
  a : 1 ≤ x.1
  b : x.1 < q
  c : x.2.1 ≤ x.1
  f : ∀ k, k < q → inF w x.2.2 x.2.1 k = stF w g (x.1 + 1) k
structure in3 (q w : Nat) (g : Nat → Gr) (x : Nat × Nat × (Nat → Gr)) : Prop where
  a : 1 ≤ x.1
  b : x.1 < q
  c : x.2.1 ≤ x.1
  d : 1 ≤ x.2.1
  f : ∀ k, k < q → inF w x.2.2 (x.2.1 - 1) k = stF w g (x.1 + 1) k
noncomputable def insF (r n w : Nat) (l : List (Nat × SV)) : FS := mkF 53 ([(0, .sl r 0 n), (1, i6 0), (2, i6 n), (3, fv (57 + 2 * w))] ++ l)
noncomputable def insL (r n w : Nat) (g : Nat → Gr) (X : (Nat → Gr) → XS) : Nat → Option HSpec :=
  twoL 0 { toLSpec := { σ := Nat × (Nat → Gr), inv := in1 n w g, μ := fun x => n - x.1, nr := 2, ms := fun _ _ => [], t := fun x => insF r n w [(8, i6 x.1)], X := fun x => X x.2, rd := rF1 r, rdOK := rF1_ok r } } <|
  twoL 2 { toLSpec := { σ := Nat × Nat × (Nat → Gr), inv := in2 n w g, μ := fun x => x.2.1, nr := 2, ms := fun _ _ => [], t := fun x => insF r n w [(8, i6 x.1), (9, i6 x.2.1)], X := fun x => X x.2.2, rd := rF2 r, rdOK := rF2_ok r }, par := some ⟨rN8, rdI⟩, kinv := fun y x => x.1 = y } <|
  oneL 1006 { toLSpec := { σ := Nat × Nat × (Nat → Gr), inv := in3 n w g, μ := fun _ => 0, nr := 2, ms := fun _ _ => [], t := fun x => insF r n w [(8, i6 x.1), (9, i6 x.2.1)], X := fun x => X x.2.2, rd := rF2 r, rdOK := rF2_ok r }, D := [(9, r), (13, r), (15, r), (17, r)], par := some ⟨rN9, rN9_ok⟩, kinv := fun y x => x.1 * 64 + x.2.1 = y }
noncomputable def csS : CSpec := ctrs [coC, coC']
noncomputable def soX (r n w : Nat) (g : Nat → Gr) (X : (Nat → Gr) → XS) : CX := inl Try.prog csS none (ictrs []) 56 noL noL <| inl Try.prog csS none (ictrs []) 70 (twoL 0 (unrH 1) (oneL 2 (unrH 1))) noL <| inl Try.prog csS none (ictrs []) 72 (insL r n w g X) noL noX
def row0 : List SV → Bool
  | .sl 0 _ _ :: _ => true
  | _ => false
noncomputable def altX (a b : CX) : CX := fun g => match a g with
  | some h1 => (match b g with
    | some h2 => some fun args X q k => (match row0 args with
      | true => h1 args X q k
      | false => h2 args X q k)
    | none => none)
  | none => none
theorem altX_sound {Γ : Ghost} {γ : GS → Γ.S} {a b : CX} (ha : SoundXH Try.prog Γ γ a) (hb : SoundXH Try.prog Γ γ b) : SoundXH Try.prog Γ γ (altX a b) := by
  intro g h hh args X q k hX hk
  unfold altX at hh
  split at hh
  · rename_i h1 e1
    split at hh
    · rename_i h2 e2
      cases hh
      split at hk
      · exact ha g h1 e1 args X q k hX hk
      · exact hb g h2 e2 args X q k hX hk
    · cases hh
  · cases hh
def gA (w : Nat) (C : Cl) (i : Nat) : Gr := ⟨i, (spT w (C.f i)).lo⟩
def gB (w : Nat) (C : Cl) (i : Nat) : Gr := ⟨i, (spT w (C.f i)).hi⟩
noncomputable def stA (w : Nat) (C : Cl) : Nat → Gr := stF 0 (gA w C) C.n
noncomputable def stB (w : Nat) (C : Cl) : Nat → Gr := stF 1 (gB w C) C.n
noncomputable def grX (w : Nat) (C : Cl) : CX := altX (soX 0 C.n 0 (gA w C) fun f => mkX [rw' 2 C.n fun i => (f i).sv, rw' 2 C.n fun i => (gB w C i).sv]) (soX 1 C.n 1 (gB w C) fun f => mkX [rw' 2 C.n fun i => (stA w C i).sv, rw' 2 C.n fun i => (f i).sv])
def w0C : Ctr := ⟨60, fun args k => match args with
  | [.agg [.int .i64 a, .int .i64 b, .int .i64 c, .int .i64 d, .int .i64 e, .int .i64 f, .int .i64 g, .int .i64 h]] => k (spT 0 ⟨a, b, c, d, e, f, g, h⟩).sv
  | _ => False⟩
def w1C : Ctr := ⟨61, fun args k => match args with
  | [.agg [.int .i64 a, .int .i64 b, .int .i64 c, .int .i64 d, .int .i64 e, .int .i64 f, .int .i64 g, .int .i64 h]] => k (spT 1 ⟨a, b, c, d, e, f, g, h⟩).sv
  | _ => False⟩
def w2C : Ctr := ⟨62, fun args k => match args with
  | [.agg [.int .i64 a, .int .i64 b, .int .i64 c, .int .i64 d, .int .i64 e, .int .i64 f, .int .i64 g, .int .i64 h]] => k (spT 2 ⟨a, b, c, d, e, f, g, h⟩).sv
  | _ => False⟩
def w3C : Ctr := ⟨63, fun args k => match args with
  | [.agg [.int .i64 a, .int .i64 b, .int .i64 c, .int .i64 d, .int .i64 e, .int .i64 f, .int .i64 g, .int .i64 h]] => k (spT 3 ⟨a, b, c, d, e, f, g, h⟩).sv
  | _ => False⟩
noncomputable def csW : CSpec := ctrs [w0C, w1C, w2C, w3C]
noncomputable def grR (w : Nat) (C : Cl) : SV := .tup [grL C.n (stA w C), grL C.n (stB w C)]
noncomputable def grG (w : Nat) (C : Cl) : Prop := funN Try.prog csW (grX w C) (ictrs [])
  (oneL 0 { toLSpec := { σ := Nat, inv := fun k => k ≤ C.n, μ := fun k => C.n - k, nr := 0, ms := (fun t _ => [match sget 40 t 4 with
                   | .sl r _ _ => some r
                   | _ => none, match sget 40 t 5 with
                   | .sl r _ _ => some r
                   | _ => none]), t := fun k => mkF 40 [(1, fv (60 + w)), (4, .sl 0 0 k), (5, .sl 1 0 k), (9, C.sv), (10, i6 C.n), (11, i6 k)], X := fun k => mkX [rw' 2 k fun i => (gA w C i).sv, rw' 2 k fun i => (gB w C i).sv], rd := fun _ _ k => ∃ z, k z, rdOK := fun _ _ _ h => h } }) noL
  41 [C.sv, fv (60 + w)] (grR w C)
noncomputable def gr0 (C : Cl) : Prop := grG 0 C
noncomputable def gr1 (C : Cl) : Prop := grG 1 C
noncomputable def gr2 (C : Cl) : Prop := grG 2 C
noncomputable def gr3 (C : Cl) : Prop := grG 3 C
end Go.Proofs.Ytmohedjgoakdjaa

set_option maxRecDepth 100000
namespace Go.Proofs.Ytmohedjgoakdjaa
open Go Go.Lg
theorem nanG_vc (a:Int):nanG a =
((¬a=a↔false=true)∧True):=by kernel_rfl
theorem cpG_vc (a:Int) (b:Int):cpG a b =
((a<b→(-1:Int)=cmpI a b∧True) ∧
 (¬a<b→(b<a→(1:Int)=cmpI a b∧True)∧(¬b<a→(0:Int)=cmpI a b∧True))):=by kernel_rfl
theorem coG_vc (a:Gr) (b:Gr):coG a b =
((0:Nat)<(1:Nat)∧(0:Nat)<(1:Nat)∧cmpI a.2 b.2=cmW (0:Nat) a b∧True):=by kernel_rfl
theorem coG'_vc (a:Gr) (b:Gr):coG' a b =
((0:Nat)<(1:Nat)∧(0:Nat)<(1:Nat)∧cmpI b.2 a.2=cmW (1:Nat) a b∧True):=by kernel_rfl
def grT (w:Nat) (C:Cl):Prop :=
((∃ (z:Nat),z≤C.1∧rE (Value.func (Fn.func ((60:Nat)+w)) #[] #[])∧rE (0:Nat)∧(0:Nat)=z∧rE (0:Nat)∧(0:Nat)=z∧C.1=C.1∧(∀ (i:Nat),i<C.1→rE ((C.f i).sv.den)∧True∧True∧True∧True∧True∧True∧True∧True∧True)∧rE (↑C.1:Int)∧(0:Int)=(↑z:Int)∧z=(0:Nat)∧z=(0:Nat)∧True)∧∀ (z:Nat),z≤C.1→((↑z:Int)<(↑C.1:Int)→(0:Int)≤(↑z:Int)∧(↑z:Int)<(↑C.1:Int)∧(0:Nat)<(1:Nat)∧(0:Nat)<(1:Nat)∧True∧(∀ (i:Nat),i<(1:Nat)→rE true)∧rE (0:Nat)∧z=z∧(∀ (i:Nat),rE true)∧(z+(1:Nat))*(16:Nat)≤(140737488355328:Nat)∧z+(1:Nat)≤(4611686018427387904:Nat)∧(0:Nat)<(1:Nat)∧True∧(∀ (i:Nat),i<(1:Nat)→rE true)∧rE (0:Nat)∧z=z∧(∀ (i:Nat),rE true)∧(z+(1:Nat))*(16:Nat)≤(140737488355328:Nat)∧z+(1:Nat) ≤
(4611686018427387904:Nat)∧rI ((↑z:Int)+(1:Int))∧∃ (z_1:Nat),z_1≤C.1∧C.1 - z_1<C.1 - z∧rE (Value.func (Fn.func ((60:Nat)+w)) #[] #[])∧rE (0:Nat)∧z+(1:Nat)=z_1∧rE (0:Nat)∧z+(1:Nat)=z_1∧C.1=C.1∧(∀ (i:Nat),i<C.1→rE ((C.f i).sv.den)∧True∧True∧True∧True∧True∧True∧True∧True∧True)∧rE (↑C.1:Int)∧(↑z:Int)+(1:Int)=(↑z_1:Int)∧z_1=z+(1:Nat)∧(∀ (i:Nat),i<z_1→rE (2:Nat)∧(if i<z then (↑i:Int) else (↑z:Int))=(↑i:Int)∧(if i<z then (spT w (C.f i)).1 else (spT w (C.f (↑z:Int).toNat)).1)=(spT w (C.f i)).1∧True)∧z_1=z+(1:Nat)∧(∀ (i:Nat),i<z_1→rE (2:Nat)∧(if i<z then (↑i:Int) else (↑z:Int))=(↑i:Int)∧(if i<z then (spT w (C.f i)).2 else (spT w (C.f (↑z:Int).toNat)).2)=(spT w (C.f i)).2∧True)∧True)∧(¬(↑z:Int)<(↑C.1:Int)→((20:Int)≤(↑z:Int)→rI ((0:Int) +
(1:Int))∧(in1 C.n (0:Nat) (gA w C) (((0:Int)+(1:Int)).toNat,fun i=>grOf (gA w C i).sv)∧rE (0:Nat)∧z=C.1∧rE (0:Int)∧(20:Int)=(↑C.1:Int)∧Value.func (Fn.func (57:Nat)) #[] #[]=Value.func (Fn.func ((57:Nat)+(2:Nat)*(0:Nat))) #[] #[]∧(0:Int)+(1:Int)=(↑(1:Nat):Int)∧C.1=z∧(∀ (i:Nat),i<C.1→rE (2:Nat)∧rE (↑i:Int)∧rE ((spT w (C.f i)).1)∧True)∧C.1=z∧(∀ (i:Nat),i<C.1→rE (2:Nat)∧rE (↑i:Int)∧rE ((spT w (C.f i)).2)∧True)∧True)∧∀ (z:Nat × (Nat→Gr)),in1 C.n (0:Nat) (gA w C) z→((↑z.1:Int)<(↑C.1:Int)→((in2 C.n (0:Nat) (gA w C) ((↑z.fst:Int).toNat,(↑z.fst:Int).toNat,fun i=>grOf (z.snd i).sv)∧rE ((↑z.1:Int).toNat))∧rE (0:Nat)∧C.1=C.1∧rE (0:Int)∧rE (↑C.1:Int)∧rE (Value.func (Fn.func ((57:Nat)+(2:Nat)*(0:Nat))) #[] #[]) ∧
(↑z.1:Int)=(↑(↑z.1:Int).toNat:Int)∧(↑z.1:Int)=(↑(↑z.1:Int).toNat:Int)∧C.1=C.1∧(∀ (i:Nat),i<C.1→rE (2:Nat)∧rE ((z.snd i).1)∧rE ((z.snd i).2)∧True)∧C.1=C.1∧(∀ (i:Nat),i<C.1→rE (2:Nat)∧rE (↑i:Int)∧rE ((spT w (C.f i)).2)∧True)∧True)∧∀ (z_1:Nat × Nat × (Nat→Gr)),in2 C.n (0:Nat) (gA w C) z_1∧z_1.1=(↑z.1:Int).toNat→((0:Int)<(↑z_1.snd.1:Int)→(0:Int)≤(↑z_1.snd.1:Int)∧(↑z_1.snd.1:Int)<(↑C.1:Int)∧(0:Nat)+(↑z_1.snd.1:Int).toNat<C.1∧rI ((↑z_1.snd.1:Int) - (1:Int))∧(0:Int)≤(↑z_1.snd.1:Int) - (1:Int)∧(↑z_1.snd.1:Int) - (1:Int)<(↑C.1:Int)∧(0:Nat)+((↑z_1.snd.1:Int) - (1:Int)).toNat<C.1∧(cmW (0:Nat) (Gr.mk (z_1.snd.snd ((0:Nat)+(↑z_1.snd.fst:Int).toNat)).co (z_1.snd.snd ((0:Nat)+(↑z_1.snd.fst:Int).toNat)).gv) (Gr.mk (z_1.snd.snd ((0:Nat)
+ ((↑z_1.snd.fst:Int) - (1:Int)).toNat)).co (z_1.snd.snd ((0:Nat)+((↑z_1.snd.fst:Int) - (1:Int)).toNat)).gv)<(0:Int)→(True∧True∧True∧True∧True∧True∧True∧True∧True∧True∧rI ((↑z_1.snd.1:Int) - (1:Int))∧True∧True∧True∧True∧True∧True∧rI ((↑z_1.snd.1:Int) - (1:Int))∧True∧True∧(0:Int)≤(↑z_1.snd.1:Int) - (1:Int)∧(↑z_1.snd.1:Int) - (1:Int)<(↑C.1:Int)∧True∧True∧(0:Nat)+((↑z_1.snd.1:Int) - (1:Int)).toNat<C.1∧True∧True∧True∧True∧(True∧True∧(0:Int)≤(↑z_1.snd.1:Int)∧(↑z_1.snd.1:Int)<(↑C.1:Int)∧True∧True∧(0:Nat)+(↑z_1.snd.1:Int).toNat<C.1∧True∧True∧(0:Int)≤(↑z_1.snd.1:Int)∧(↑z_1.snd.1:Int)<(↑C.1:Int)∧True∧True∧(0:Nat)+(2:Nat)≤(2:Nat)∧(0:Nat)+(↑z_1.snd.1:Int).toNat<C.1∧(∀ (i':Nat),rE true)∧True∧True∧(0 :
Int)≤(↑z_1.snd.1:Int) - (1:Int)∧(↑z_1.snd.1:Int) - (1:Int)<(↑C.1:Int)∧True∧True∧(0:Nat)+(2:Nat)≤(2:Nat)∧(0:Nat)+((↑z_1.snd.1:Int) - (1:Int)).toNat<C.1∧(∀ (i':Nat),rE true)∧(in3 C.n (0:Nat) (gA w C) ((↑z_1.fst:Int).toNat,(↑z_1.snd.fst:Int).toNat,fun i=>grOf (putR (putR (fun i=>(z_1.snd.snd i).sv) ((0:Nat)+(↑z_1.snd.fst:Int).toNat) (0:Nat) (SV.agg [i6 (z_1.snd.snd ((0:Nat)+((↑z_1.snd.fst:Int) - (1:Int)).toNat)).co,i6 (z_1.snd.snd ((0:Nat)+((↑z_1.snd.fst:Int) - (1:Int)).toNat)).gv])) ((0:Nat)+((↑z_1.snd.fst:Int) - (1:Int)).toNat) (0:Nat) (SV.agg [i6 (z_1.snd.snd ((0:Nat)+(↑z_1.snd.fst:Int).toNat)).co,i6 (z_1.snd.snd ((0:Nat)+(↑z_1.snd.fst:Int).toNat)).gv]) i))∧rE ((↑z_1.1:Int).toNat*(64:Nat)+(↑z_1.snd.1:Int).toNat))∧rE (0:Nat)∧C.1=C.1∧rE (0:Int) ∧
rE (↑C.1:Int)∧rE (Value.func (Fn.func ((57:Nat)+(2:Nat)*(0:Nat))) #[] #[])∧(↑z_1.1:Int)=(↑(↑z_1.1:Int).toNat:Int)∧(↑z_1.snd.1:Int)=(↑(↑z_1.snd.1:Int).toNat:Int)∧C.1=C.1∧(∀ (i:Nat),i<C.1→rE (2:Nat)∧((if i=(0:Nat)+((↑z_1.snd.1:Int) - (1:Int)).toNat then (z_1.snd.snd ((0:Nat)+(↑z_1.snd.fst:Int).toNat)).1 else if i=(0:Nat)+(↑z_1.snd.1:Int).toNat then (z_1.snd.snd ((0:Nat)+((↑z_1.snd.fst:Int) - (1:Int)).toNat)).1 else (z_1.snd.snd i).1)=if i=(0:Nat)+((↑z_1.snd.1:Int) - (1:Int)).toNat then (z_1.snd.snd ((0:Nat)+(↑z_1.snd.fst:Int).toNat)).1 else if i=(0:Nat)+(↑z_1.snd.1:Int).toNat then (z_1.snd.snd ((0:Nat)+((↑z_1.snd.fst:Int) - (1:Int)).toNat)).1 else (z_1.snd.snd i).1)∧((if i=(0:Nat)+((↑z_1.snd.1:Int) - (1:Int)).toNat then (z_1.snd.snd ((0:Nat)+(↑z_1.snd.fst :
Int).toNat)).2 else if i=(0:Nat)+(↑z_1.snd.1:Int).toNat then (z_1.snd.snd ((0:Nat)+((↑z_1.snd.fst:Int) - (1:Int)).toNat)).2 else (z_1.snd.snd i).2)=if i=(0:Nat)+((↑z_1.snd.1:Int) - (1:Int)).toNat then (z_1.snd.snd ((0:Nat)+(↑z_1.snd.fst:Int).toNat)).2 else if i=(0:Nat)+(↑z_1.snd.1:Int).toNat then (z_1.snd.snd ((0:Nat)+((↑z_1.snd.fst:Int) - (1:Int)).toNat)).2 else (z_1.snd.snd i).2)∧True)∧C.1=C.1∧(∀ (i:Nat),i<C.1→rE (2:Nat)∧rE (↑i:Int)∧rE ((spT w (C.f i)).2)∧True)∧True)∧True)∧∀ (z_2:Nat × Nat × (Nat→Gr)),in3 C.n (0:Nat) (gA w C) z_2∧z_2.1*(64:Nat)+z_2.snd.1=(↑z_1.1:Int).toNat*(64:Nat)+(↑z_1.snd.1:Int).toNat→rI ((↑z_2.snd.1:Int) - (1:Int))∧(in2 C.n (0:Nat) (gA w C) ((↑z_2.fst:Int).toNat,((↑z_2.snd.fst:Int) - (1:Int)).toNat,fun i=>grOf (z_2.snd.snd i).sv)
∧ (↑z_2.1:Int).toNat=(↑z.1:Int).toNat)∧((↑z_2.snd.1:Int) - (1:Int)).toNat<z_1.snd.1∧rE (0:Nat)∧C.1=C.1∧rE (0:Int)∧rE (↑C.1:Int)∧rE (Value.func (Fn.func ((57:Nat)+(2:Nat)*(0:Nat))) #[] #[])∧(↑z_2.1:Int)=(↑(↑z_2.1:Int).toNat:Int)∧(↑z_2.snd.1:Int) - (1:Int)=(↑((↑z_2.snd.1:Int) - (1:Int)).toNat:Int)∧C.1=C.1∧(∀ (i:Nat),i<C.1→rE (2:Nat)∧rE ((z_2.snd.snd i).1)∧rE ((z_2.snd.snd i).2)∧True)∧C.1=C.1∧(∀ (i:Nat),i<C.1→rE (2:Nat)∧rE (↑i:Int)∧rE ((spT w (C.f i)).2)∧True)∧True)∧(¬cmW (0:Nat) (Gr.mk (z_1.snd.snd ((0:Nat)+(↑z_1.snd.fst:Int).toNat)).co (z_1.snd.snd ((0:Nat)+(↑z_1.snd.fst:Int).toNat)).gv) (Gr.mk (z_1.snd.snd ((0:Nat)+((↑z_1.snd.fst:Int) - (1:Int)).toNat)).co (z_1.snd.snd ((0:Nat)+((↑z_1.snd.fst:Int) - (1:Int)).toNat)).gv)<(0:Int)→rI ((↑z_1.1:Int)
+ (1:Int))∧in1 C.n (0:Nat) (gA w C) (((↑z_1.fst:Int)+(1:Int)).toNat,fun i=>grOf (z_1.snd.snd i).sv)∧C.1 - ((↑z_1.1:Int)+(1:Int)).toNat<C.1 - z.1∧rE (0:Nat)∧C.1=C.1∧rE (0:Int)∧rE (↑C.1:Int)∧rE (Value.func (Fn.func ((57:Nat)+(2:Nat)*(0:Nat))) #[] #[])∧(↑z_1.1:Int)+(1:Int)=(↑((↑z_1.1:Int)+(1:Int)).toNat:Int)∧C.1=C.1∧(∀ (i:Nat),i<C.1→rE (2:Nat)∧rE ((z_1.snd.snd i).1)∧rE ((z_1.snd.snd i).2)∧True)∧C.1=C.1∧(∀ (i:Nat),i<C.1→rE (2:Nat)∧rE (↑i:Int)∧rE ((spT w (C.f i)).2)∧True)∧True))∧(¬(0:Int)<(↑z_1.snd.1:Int)→rI ((↑z_1.1:Int)+(1:Int))∧in1 C.n (0:Nat) (gA w C) (((↑z_1.fst:Int)+(1:Int)).toNat,fun i=>grOf (z_1.snd.snd i).sv)∧C.1 - ((↑z_1.1:Int)+(1:Int)).toNat<C.1 - z.1∧rE (0:Nat)∧C.1=C.1∧rE (0:Int)∧rE (↑C.1:Int)∧rE
(Value.func (Fn.func ((57:Nat)+(2:Nat)*(0:Nat))) #[] #[])∧(↑z_1.1:Int)+(1:Int)=(↑((↑z_1.1:Int)+(1:Int)).toNat:Int)∧C.1=C.1∧(∀ (i:Nat),i<C.1→rE (2:Nat)∧rE ((z_1.snd.snd i).1)∧rE ((z_1.snd.snd i).2)∧True)∧C.1=C.1∧(∀ (i:Nat),i<C.1→rE (2:Nat)∧rE (↑i:Int)∧rE ((spT w (C.f i)).2)∧True)∧True))∧(¬(↑z.1:Int)<(↑C.1:Int)→rI ((20:Int)+(20:Int))∧False))∧(¬(20:Int)≤(↑z:Int)→rI ((0:Int)+(1:Int))∧(in1 C.n (0:Nat) (gA w C) (((0:Int)+(1:Int)).toNat,fun i=>grOf (gA w C i).sv)∧rE (0:Nat)∧z=C.1∧rE (0:Int)∧(↑z:Int)=(↑C.1:Int)∧Value.func (Fn.func (57:Nat)) #[] #[]=Value.func (Fn.func ((57:Nat)+(2:Nat)*(0:Nat))) #[] #[]∧(0:Int)+(1:Int)=(↑(1:Nat):Int)∧C.1=z∧(∀ (i:Nat),i<C.1→rE (2:Nat)∧rE (↑i:Int)∧rE ((spT w (C.f i)).1) ∧
True)∧C.1=z∧(∀ (i:Nat),i<C.1→rE (2:Nat)∧rE (↑i:Int)∧rE ((spT w (C.f i)).2)∧True)∧True)∧∀ (z_1:Nat × (Nat→Gr)),in1 C.n (0:Nat) (gA w C) z_1→((↑z_1.1:Int)<(↑C.1:Int)→((in2 C.n (0:Nat) (gA w C) ((↑z_1.fst:Int).toNat,(↑z_1.fst:Int).toNat,fun i=>grOf (z_1.snd i).sv)∧rE ((↑z_1.1:Int).toNat))∧rE (0:Nat)∧C.1=C.1∧rE (0:Int)∧rE (↑C.1:Int)∧rE (Value.func (Fn.func ((57:Nat)+(2:Nat)*(0:Nat))) #[] #[])∧(↑z_1.1:Int)=(↑(↑z_1.1:Int).toNat:Int)∧(↑z_1.1:Int)=(↑(↑z_1.1:Int).toNat:Int)∧C.1=C.1∧(∀ (i:Nat),i<C.1→rE (2:Nat)∧rE ((z_1.snd i).1)∧rE ((z_1.snd i).2)∧True)∧C.1=C.1∧(∀ (i:Nat),i<C.1→rE (2:Nat)∧rE (↑i:Int)∧rE ((spT w (C.f i)).2)∧True)∧True)∧∀ (z:Nat × Nat × (Nat→Gr)),in2 C.n (0:Nat) (gA w C) z∧z.1=(↑z_1.1:Int).toNat→((0:Int) <
(↑z.snd.1:Int)→(0:Int)≤(↑z.snd.1:Int)∧(↑z.snd.1:Int)<(↑C.1:Int)∧(0:Nat)+(↑z.snd.1:Int).toNat<C.1∧rI ((↑z.snd.1:Int) - (1:Int))∧(0:Int)≤(↑z.snd.1:Int) - (1:Int)∧(↑z.snd.1:Int) - (1:Int)<(↑C.1:Int)∧(0:Nat)+((↑z.snd.1:Int) - (1:Int)).toNat<C.1∧(cmW (0:Nat) (Gr.mk (z.snd.snd ((0:Nat)+(↑z.snd.fst:Int).toNat)).co (z.snd.snd ((0:Nat)+(↑z.snd.fst:Int).toNat)).gv) (Gr.mk (z.snd.snd ((0:Nat)+((↑z.snd.fst:Int) - (1:Int)).toNat)).co (z.snd.snd ((0:Nat)+((↑z.snd.fst:Int) - (1:Int)).toNat)).gv)<(0:Int)→(True∧True∧True∧True∧True∧True∧True∧True∧True∧True∧rI ((↑z.snd.1:Int) - (1:Int))∧True∧True∧True∧True∧True∧True∧rI ((↑z.snd.1:Int) - (1:Int))∧True∧True∧(0:Int)≤(↑z.snd.1:Int) - (1:Int)∧(↑z.snd.1:Int) - (1:Int)<(↑C.1:Int)∧True∧True ∧
(0:Nat)+((↑z.snd.1:Int) - (1:Int)).toNat<C.1∧True∧True∧True∧True∧(True∧True∧(0:Int)≤(↑z.snd.1:Int)∧(↑z.snd.1:Int)<(↑C.1:Int)∧True∧True∧(0:Nat)+(↑z.snd.1:Int).toNat<C.1∧True∧True∧(0:Int)≤(↑z.snd.1:Int)∧(↑z.snd.1:Int)<(↑C.1:Int)∧True∧True∧(0:Nat)+(2:Nat)≤(2:Nat)∧(0:Nat)+(↑z.snd.1:Int).toNat<C.1∧(∀ (i':Nat),rE true)∧True∧True∧(0:Int)≤(↑z.snd.1:Int) - (1:Int)∧(↑z.snd.1:Int) - (1:Int)<(↑C.1:Int)∧True∧True∧(0:Nat)+(2:Nat)≤(2:Nat)∧(0:Nat)+((↑z.snd.1:Int) - (1:Int)).toNat<C.1∧(∀ (i':Nat),rE true)∧(in3 C.n (0:Nat) (gA w C) ((↑z.fst:Int).toNat,(↑z.snd.fst:Int).toNat,fun i=>grOf (putR (putR (fun i=>(z.snd.snd i).sv) ((0:Nat)+(↑z.snd.fst:Int).toNat) (0:Nat) (SV.agg [i6 (z.snd.snd ((0:Nat)+((↑z.snd.fst:Int)
- (1:Int)).toNat)).co,i6 (z.snd.snd ((0:Nat)+((↑z.snd.fst:Int) - (1:Int)).toNat)).gv])) ((0:Nat)+((↑z.snd.fst:Int) - (1:Int)).toNat) (0:Nat) (SV.agg [i6 (z.snd.snd ((0:Nat)+(↑z.snd.fst:Int).toNat)).co,i6 (z.snd.snd ((0:Nat)+(↑z.snd.fst:Int).toNat)).gv]) i))∧rE ((↑z.1:Int).toNat*(64:Nat)+(↑z.snd.1:Int).toNat))∧rE (0:Nat)∧C.1=C.1∧rE (0:Int)∧rE (↑C.1:Int)∧rE (Value.func (Fn.func ((57:Nat)+(2:Nat)*(0:Nat))) #[] #[])∧(↑z.1:Int)=(↑(↑z.1:Int).toNat:Int)∧(↑z.snd.1:Int)=(↑(↑z.snd.1:Int).toNat:Int)∧C.1=C.1∧(∀ (i:Nat),i<C.1→rE (2:Nat)∧((if i=(0:Nat)+((↑z.snd.1:Int) - (1:Int)).toNat then (z.snd.snd ((0:Nat)+(↑z.snd.fst:Int).toNat)).1 else if i=(0:Nat)+(↑z.snd.1:Int).toNat then (z.snd.snd ((0:Nat)+((↑z.snd.fst:Int) - (1:Int)).toNat)).1 else (z.snd.snd i).1) =
if i=(0:Nat)+((↑z.snd.1:Int) - (1:Int)).toNat then (z.snd.snd ((0:Nat)+(↑z.snd.fst:Int).toNat)).1 else if i=(0:Nat)+(↑z.snd.1:Int).toNat then (z.snd.snd ((0:Nat)+((↑z.snd.fst:Int) - (1:Int)).toNat)).1 else (z.snd.snd i).1)∧((if i=(0:Nat)+((↑z.snd.1:Int) - (1:Int)).toNat then (z.snd.snd ((0:Nat)+(↑z.snd.fst:Int).toNat)).2 else if i=(0:Nat)+(↑z.snd.1:Int).toNat then (z.snd.snd ((0:Nat)+((↑z.snd.fst:Int) - (1:Int)).toNat)).2 else (z.snd.snd i).2)=if i=(0:Nat)+((↑z.snd.1:Int) - (1:Int)).toNat then (z.snd.snd ((0:Nat)+(↑z.snd.fst:Int).toNat)).2 else if i=(0:Nat)+(↑z.snd.1:Int).toNat then (z.snd.snd ((0:Nat)+((↑z.snd.fst:Int) - (1:Int)).toNat)).2 else (z.snd.snd i).2)∧True)∧C.1=C.1∧(∀ (i:Nat),i<C.1→rE (2:Nat)∧rE (↑i:Int)∧rE ((spT w (C.f i)).2)∧True)∧True)∧True)∧∀ (z_2 :
Nat × Nat × (Nat→Gr)),in3 C.n (0:Nat) (gA w C) z_2∧z_2.1*(64:Nat)+z_2.snd.1=(↑z.1:Int).toNat*(64:Nat)+(↑z.snd.1:Int).toNat→rI ((↑z_2.snd.1:Int) - (1:Int))∧(in2 C.n (0:Nat) (gA w C) ((↑z_2.fst:Int).toNat,((↑z_2.snd.fst:Int) - (1:Int)).toNat,fun i=>grOf (z_2.snd.snd i).sv)∧(↑z_2.1:Int).toNat=(↑z_1.1:Int).toNat)∧((↑z_2.snd.1:Int) - (1:Int)).toNat<z.snd.1∧rE (0:Nat)∧C.1=C.1∧rE (0:Int)∧rE (↑C.1:Int)∧rE (Value.func (Fn.func ((57:Nat)+(2:Nat)*(0:Nat))) #[] #[])∧(↑z_2.1:Int)=(↑(↑z_2.1:Int).toNat:Int)∧(↑z_2.snd.1:Int) - (1:Int)=(↑((↑z_2.snd.1:Int) - (1:Int)).toNat:Int)∧C.1=C.1∧(∀ (i:Nat),i<C.1→rE (2:Nat)∧rE ((z_2.snd.snd i).1)∧rE ((z_2.snd.snd i).2)∧True)∧C.1=C.1∧(∀ (i:Nat),i<C.1→rE (2:Nat)∧rE (↑i:Int)∧rE ((spT w (C.f i)).2)∧True) ∧
True)∧(¬cmW (0:Nat) (Gr.mk (z.snd.snd ((0:Nat)+(↑z.snd.fst:Int).toNat)).co (z.snd.snd ((0:Nat)+(↑z.snd.fst:Int).toNat)).gv) (Gr.mk (z.snd.snd ((0:Nat)+((↑z.snd.fst:Int) - (1:Int)).toNat)).co (z.snd.snd ((0:Nat)+((↑z.snd.fst:Int) - (1:Int)).toNat)).gv)<(0:Int)→rI ((↑z.1:Int)+(1:Int))∧in1 C.n (0:Nat) (gA w C) (((↑z.fst:Int)+(1:Int)).toNat,fun i=>grOf (z.snd.snd i).sv)∧C.1 - ((↑z.1:Int)+(1:Int)).toNat<C.1 - z_1.1∧rE (0:Nat)∧C.1=C.1∧rE (0:Int)∧rE (↑C.1:Int)∧rE (Value.func (Fn.func ((57:Nat)+(2:Nat)*(0:Nat))) #[] #[])∧(↑z.1:Int)+(1:Int)=(↑((↑z.1:Int)+(1:Int)).toNat:Int)∧C.1=C.1∧(∀ (i:Nat),i<C.1→rE (2:Nat)∧rE ((z.snd.snd i).1)∧rE ((z.snd.snd i).2)∧True)∧C.1=C.1∧(∀ (i:Nat),i<C.1→rE (2:Nat)∧rE (↑i:Int)∧rE ((spT w (C.f i)).2)∧True)∧True))
∧ (¬(0:Int)<(↑z.snd.1:Int)→rI ((↑z.1:Int)+(1:Int))∧in1 C.n (0:Nat) (gA w C) (((↑z.fst:Int)+(1:Int)).toNat,fun i=>grOf (z.snd.snd i).sv)∧C.1 - ((↑z.1:Int)+(1:Int)).toNat<C.1 - z_1.1∧rE (0:Nat)∧C.1=C.1∧rE (0:Int)∧rE (↑C.1:Int)∧rE (Value.func (Fn.func ((57:Nat)+(2:Nat)*(0:Nat))) #[] #[])∧(↑z.1:Int)+(1:Int)=(↑((↑z.1:Int)+(1:Int)).toNat:Int)∧C.1=C.1∧(∀ (i:Nat),i<C.1→rE (2:Nat)∧rE ((z.snd.snd i).1)∧rE ((z.snd.snd i).2)∧True)∧C.1=C.1∧(∀ (i:Nat),i<C.1→rE (2:Nat)∧rE (↑i:Int)∧rE ((spT w (C.f i)).2)∧True)∧True))∧(¬(↑z_1.1:Int)<(↑C.1:Int)→((20:Int)<(↑z:Int)→rI ((2:Int)*(20:Int))∧False)∧(¬(20:Int)<(↑z:Int)→((20:Int)≤(↑z:Int)→rI ((0:Int)+(1:Int))∧(in1 C.n (1:Nat) (gB w C) (((0:Int)+(1:Int)).toNat,fun i =>
grOf (gB w C i).sv)∧rE (0:Nat)∧z=C.1∧rE (0:Int)∧(20:Int)=(↑C.1:Int)∧Value.func (Fn.func (59:Nat)) #[] #[]=Value.func (Fn.func ((57:Nat)+(2:Nat)*(1:Nat))) #[] #[]∧(0:Int)+(1:Int)=(↑(1:Nat):Int)∧C.1=C.1∧(∀ (i:Nat),i<C.1→rE (2:Nat)∧(z_1.snd i).1=(stA w C i).1∧(z_1.snd i).2=(stA w C i).2∧True)∧C.1=C.1∧(∀ (i:Nat),i<C.1→rE (2:Nat)∧rE (↑i:Int)∧rE ((spT w (C.f i)).2)∧True)∧True)∧∀ (z:Nat × (Nat→Gr)),in1 C.n (1:Nat) (gB w C) z→((↑z.1:Int)<(↑C.1:Int)→((in2 C.n (1:Nat) (gB w C) ((↑z.fst:Int).toNat,(↑z.fst:Int).toNat,fun i=>grOf (z.snd i).sv)∧rE ((↑z.1:Int).toNat))∧rE (0:Nat)∧C.1=C.1∧rE (0:Int)∧rE (↑C.1:Int)∧rE (Value.func (Fn.func ((57:Nat)+(2:Nat)*(1:Nat))) #[] #[])∧(↑z.1:Int)=(↑(↑z.1:Int).toNat :
Int)∧(↑z.1:Int)=(↑(↑z.1:Int).toNat:Int)∧C.1=C.1∧(∀ (i:Nat),i<C.1→rE (2:Nat)∧rE ((stA w C i).1)∧rE ((stA w C i).2)∧True)∧C.1=C.1∧(∀ (i:Nat),i<C.1→rE (2:Nat)∧rE ((z.snd i).1)∧rE ((z.snd i).2)∧True)∧True)∧∀ (z_2:Nat × Nat × (Nat→Gr)),in2 C.n (1:Nat) (gB w C) z_2∧z_2.1=(↑z.1:Int).toNat→((0:Int)<(↑z_2.snd.1:Int)→(0:Int)≤(↑z_2.snd.1:Int)∧(↑z_2.snd.1:Int)<(↑C.1:Int)∧(0:Nat)+(↑z_2.snd.1:Int).toNat<C.1∧rI ((↑z_2.snd.1:Int) - (1:Int))∧(0:Int)≤(↑z_2.snd.1:Int) - (1:Int)∧(↑z_2.snd.1:Int) - (1:Int)<(↑C.1:Int)∧(0:Nat)+((↑z_2.snd.1:Int) - (1:Int)).toNat<C.1∧(cmW (1:Nat) (Gr.mk (z_2.snd.snd ((0:Nat)+(↑z_2.snd.fst:Int).toNat)).co (z_2.snd.snd ((0:Nat)+(↑z_2.snd.fst:Int).toNat)).gv) (Gr.mk (z_2.snd.snd ((0:Nat) +
((↑z_2.snd.fst:Int) - (1:Int)).toNat)).co (z_2.snd.snd ((0:Nat)+((↑z_2.snd.fst:Int) - (1:Int)).toNat)).gv)<(0:Int)→(True∧True∧True∧True∧True∧True∧True∧True∧True∧True∧rI ((↑z_2.snd.1:Int) - (1:Int))∧True∧True∧True∧True∧True∧True∧rI ((↑z_2.snd.1:Int) - (1:Int))∧True∧True∧(0:Int)≤(↑z_2.snd.1:Int) - (1:Int)∧(↑z_2.snd.1:Int) - (1:Int)<(↑C.1:Int)∧True∧True∧(0:Nat)+((↑z_2.snd.1:Int) - (1:Int)).toNat<C.1∧True∧True∧True∧True∧(True∧True∧(0:Int)≤(↑z_2.snd.1:Int)∧(↑z_2.snd.1:Int)<(↑C.1:Int)∧True∧True∧(0:Nat)+(↑z_2.snd.1:Int).toNat<C.1∧True∧True∧(0:Int)≤(↑z_2.snd.1:Int)∧(↑z_2.snd.1:Int)<(↑C.1:Int)∧True∧True∧(0:Nat)+(2:Nat)≤(2:Nat)∧(0:Nat)+(↑z_2.snd.1:Int).toNat<C.1∧(∀ (i':Nat),rE true)∧True∧True∧(0 :
Int)≤(↑z_2.snd.1:Int) - (1:Int)∧(↑z_2.snd.1:Int) - (1:Int)<(↑C.1:Int)∧True∧True∧(0:Nat)+(2:Nat)≤(2:Nat)∧(0:Nat)+((↑z_2.snd.1:Int) - (1:Int)).toNat<C.1∧(∀ (i':Nat),rE true)∧(in3 C.n (1:Nat) (gB w C) ((↑z_2.fst:Int).toNat,(↑z_2.snd.fst:Int).toNat,fun i=>grOf (putR (putR (fun i=>(z_2.snd.snd i).sv) ((0:Nat)+(↑z_2.snd.fst:Int).toNat) (0:Nat) (SV.agg [i6 (z_2.snd.snd ((0:Nat)+((↑z_2.snd.fst:Int) - (1:Int)).toNat)).co,i6 (z_2.snd.snd ((0:Nat)+((↑z_2.snd.fst:Int) - (1:Int)).toNat)).gv])) ((0:Nat)+((↑z_2.snd.fst:Int) - (1:Int)).toNat) (0:Nat) (SV.agg [i6 (z_2.snd.snd ((0:Nat)+(↑z_2.snd.fst:Int).toNat)).co,i6 (z_2.snd.snd ((0:Nat)+(↑z_2.snd.fst:Int).toNat)).gv]) i))∧rE ((↑z_2.1:Int).toNat*(64:Nat)+(↑z_2.snd.1:Int).toNat))∧rE (0:Nat)∧C.1=C.1∧rE (0:Int) ∧
rE (↑C.1:Int)∧rE (Value.func (Fn.func ((57:Nat)+(2:Nat)*(1:Nat))) #[] #[])∧(↑z_2.1:Int)=(↑(↑z_2.1:Int).toNat:Int)∧(↑z_2.snd.1:Int)=(↑(↑z_2.snd.1:Int).toNat:Int)∧C.1=C.1∧(∀ (i:Nat),i<C.1→rE (2:Nat)∧rE ((stA w C i).1)∧rE ((stA w C i).2)∧True)∧C.1=C.1∧(∀ (i:Nat),i<C.1→rE (2:Nat)∧((if i=(0:Nat)+((↑z_2.snd.1:Int) - (1:Int)).toNat then (z_2.snd.snd ((0:Nat)+(↑z_2.snd.fst:Int).toNat)).1 else if i=(0:Nat)+(↑z_2.snd.1:Int).toNat then (z_2.snd.snd ((0:Nat)+((↑z_2.snd.fst:Int) - (1:Int)).toNat)).1 else (z_2.snd.snd i).1)=if i=(0:Nat)+((↑z_2.snd.1:Int) - (1:Int)).toNat then (z_2.snd.snd ((0:Nat)+(↑z_2.snd.fst:Int).toNat)).1 else if i=(0:Nat)+(↑z_2.snd.1:Int).toNat then (z_2.snd.snd ((0:Nat)+((↑z_2.snd.fst:Int) - (1:Int)).toNat)).1 else
(z_2.snd.snd i).1)∧((if i=(0:Nat)+((↑z_2.snd.1:Int) - (1:Int)).toNat then (z_2.snd.snd ((0:Nat)+(↑z_2.snd.fst:Int).toNat)).2 else if i=(0:Nat)+(↑z_2.snd.1:Int).toNat then (z_2.snd.snd ((0:Nat)+((↑z_2.snd.fst:Int) - (1:Int)).toNat)).2 else (z_2.snd.snd i).2)=if i=(0:Nat)+((↑z_2.snd.1:Int) - (1:Int)).toNat then (z_2.snd.snd ((0:Nat)+(↑z_2.snd.fst:Int).toNat)).2 else if i=(0:Nat)+(↑z_2.snd.1:Int).toNat then (z_2.snd.snd ((0:Nat)+((↑z_2.snd.fst:Int) - (1:Int)).toNat)).2 else (z_2.snd.snd i).2)∧True)∧True)∧True)∧∀ (z_3:Nat × Nat × (Nat→Gr)),in3 C.n (1:Nat) (gB w C) z_3∧z_3.1*(64:Nat)+z_3.snd.1=(↑z_2.1:Int).toNat*(64:Nat)+(↑z_2.snd.1:Int).toNat→rI ((↑z_3.snd.1:Int) - (1:Int))∧(in2 C.n (1:Nat) (gB w C) ((↑z_3.fst:Int).toNat,((↑z_3.snd.fst:Int) - (1 :
Int)).toNat,fun i=>grOf (z_3.snd.snd i).sv)∧(↑z_3.1:Int).toNat=(↑z.1:Int).toNat)∧((↑z_3.snd.1:Int) - (1:Int)).toNat<z_2.snd.1∧rE (0:Nat)∧C.1=C.1∧rE (0:Int)∧rE (↑C.1:Int)∧rE (Value.func (Fn.func ((57:Nat)+(2:Nat)*(1:Nat))) #[] #[])∧(↑z_3.1:Int)=(↑(↑z_3.1:Int).toNat:Int)∧(↑z_3.snd.1:Int) - (1:Int)=(↑((↑z_3.snd.1:Int) - (1:Int)).toNat:Int)∧C.1=C.1∧(∀ (i:Nat),i<C.1→rE (2:Nat)∧rE ((stA w C i).1)∧rE ((stA w C i).2)∧True)∧C.1=C.1∧(∀ (i:Nat),i<C.1→rE (2:Nat)∧rE ((z_3.snd.snd i).1)∧rE ((z_3.snd.snd i).2)∧True)∧True)∧(¬cmW (1:Nat) (Gr.mk (z_2.snd.snd ((0:Nat)+(↑z_2.snd.fst:Int).toNat)).co (z_2.snd.snd ((0:Nat)+(↑z_2.snd.fst:Int).toNat)).gv) (Gr.mk (z_2.snd.snd ((0:Nat)+((↑z_2.snd.fst:Int) - (1:Int)).toNat)).co (z_2.snd.snd ((0:Nat) +
((↑z_2.snd.fst:Int) - (1:Int)).toNat)).gv)<(0:Int)→rI ((↑z_2.1:Int)+(1:Int))∧in1 C.n (1:Nat) (gB w C) (((↑z_2.fst:Int)+(1:Int)).toNat,fun i=>grOf (z_2.snd.snd i).sv)∧C.1 - ((↑z_2.1:Int)+(1:Int)).toNat<C.1 - z.1∧rE (0:Nat)∧C.1=C.1∧rE (0:Int)∧rE (↑C.1:Int)∧rE (Value.func (Fn.func ((57:Nat)+(2:Nat)*(1:Nat))) #[] #[])∧(↑z_2.1:Int)+(1:Int)=(↑((↑z_2.1:Int)+(1:Int)).toNat:Int)∧C.1=C.1∧(∀ (i:Nat),i<C.1→rE (2:Nat)∧rE ((stA w C i).1)∧rE ((stA w C i).2)∧True)∧C.1=C.1∧(∀ (i:Nat),i<C.1→rE (2:Nat)∧rE ((z_2.snd.snd i).1)∧rE ((z_2.snd.snd i).2)∧True)∧True))∧(¬(0:Int)<(↑z_2.snd.1:Int)→rI ((↑z_2.1:Int)+(1:Int))∧in1 C.n (1:Nat) (gB w C) (((↑z_2.fst:Int)+(1:Int)).toNat,fun i=>grOf (z_2.snd.snd i).sv)∧C.1 - ((↑z_2.1 :
Int)+(1:Int)).toNat<C.1 - z.1∧rE (0:Nat)∧C.1=C.1∧rE (0:Int)∧rE (↑C.1:Int)∧rE (Value.func (Fn.func ((57:Nat)+(2:Nat)*(1:Nat))) #[] #[])∧(↑z_2.1:Int)+(1:Int)=(↑((↑z_2.1:Int)+(1:Int)).toNat:Int)∧C.1=C.1∧(∀ (i:Nat),i<C.1→rE (2:Nat)∧rE ((stA w C i).1)∧rE ((stA w C i).2)∧True)∧C.1=C.1∧(∀ (i:Nat),i<C.1→rE (2:Nat)∧rE ((z_2.snd.snd i).1)∧rE ((z_2.snd.snd i).2)∧True)∧True))∧(¬(↑z.1:Int)<(↑C.1:Int)→rI ((20:Int)+(20:Int))∧False))∧(¬(20:Int)≤(↑z:Int)→rI ((0:Int)+(1:Int))∧(in1 C.n (1:Nat) (gB w C) (((0:Int)+(1:Int)).toNat,fun i=>grOf (gB w C i).sv)∧rE (0:Nat)∧z=C.1∧rE (0:Int)∧(↑z:Int)=(↑C.1:Int)∧Value.func (Fn.func (59:Nat)) #[] #[]=Value.func (Fn.func ((57:Nat)+(2:Nat)*(1:Nat))) #[] #[]∧(0
: Int)+(1:Int)=(↑(1:Nat):Int)∧C.1=C.1∧(∀ (i:Nat),i<C.1→rE (2:Nat)∧(z_1.snd i).1=(stA w C i).1∧(z_1.snd i).2=(stA w C i).2∧True)∧C.1=C.1∧(∀ (i:Nat),i<C.1→rE (2:Nat)∧rE (↑i:Int)∧rE ((spT w (C.f i)).2)∧True)∧True)∧∀ (z_2:Nat × (Nat→Gr)),in1 C.n (1:Nat) (gB w C) z_2→((↑z_2.1:Int)<(↑C.1:Int)→((in2 C.n (1:Nat) (gB w C) ((↑z_2.fst:Int).toNat,(↑z_2.fst:Int).toNat,fun i=>grOf (z_2.snd i).sv)∧rE ((↑z_2.1:Int).toNat))∧rE (0:Nat)∧C.1=C.1∧rE (0:Int)∧rE (↑C.1:Int)∧rE (Value.func (Fn.func ((57:Nat)+(2:Nat)*(1:Nat))) #[] #[])∧(↑z_2.1:Int)=(↑(↑z_2.1:Int).toNat:Int)∧(↑z_2.1:Int)=(↑(↑z_2.1:Int).toNat:Int)∧C.1=C.1∧(∀ (i:Nat),i<C.1→rE (2:Nat)∧rE ((stA w C i).1)∧rE ((stA w C i).2)∧True)∧C.1=C.1∧(∀ (i :
Nat),i<C.1→rE (2:Nat)∧rE ((z_2.snd i).1)∧rE ((z_2.snd i).2)∧True)∧True)∧∀ (z:Nat × Nat × (Nat→Gr)),in2 C.n (1:Nat) (gB w C) z∧z.1=(↑z_2.1:Int).toNat→((0:Int)<(↑z.snd.1:Int)→(0:Int)≤(↑z.snd.1:Int)∧(↑z.snd.1:Int)<(↑C.1:Int)∧(0:Nat)+(↑z.snd.1:Int).toNat<C.1∧rI ((↑z.snd.1:Int) - (1:Int))∧(0:Int)≤(↑z.snd.1:Int) - (1:Int)∧(↑z.snd.1:Int) - (1:Int)<(↑C.1:Int)∧(0:Nat)+((↑z.snd.1:Int) - (1:Int)).toNat<C.1∧(cmW (1:Nat) (Gr.mk (z.snd.snd ((0:Nat)+(↑z.snd.fst:Int).toNat)).co (z.snd.snd ((0:Nat)+(↑z.snd.fst:Int).toNat)).gv) (Gr.mk (z.snd.snd ((0:Nat)+((↑z.snd.fst:Int) - (1:Int)).toNat)).co (z.snd.snd ((0:Nat)+((↑z.snd.fst:Int) - (1:Int)).toNat)).gv)<(0:Int)→(True∧True∧True∧True∧True∧True∧True∧True∧True∧True∧rI ((↑z.snd.1:Int) - (1 :
Int))∧True∧True∧True∧True∧True∧True∧rI ((↑z.snd.1:Int) - (1:Int))∧True∧True∧(0:Int)≤(↑z.snd.1:Int) - (1:Int)∧(↑z.snd.1:Int) - (1:Int)<(↑C.1:Int)∧True∧True∧(0:Nat)+((↑z.snd.1:Int) - (1:Int)).toNat<C.1∧True∧True∧True∧True∧(True∧True∧(0:Int)≤(↑z.snd.1:Int)∧(↑z.snd.1:Int)<(↑C.1:Int)∧True∧True∧(0:Nat)+(↑z.snd.1:Int).toNat<C.1∧True∧True∧(0:Int)≤(↑z.snd.1:Int)∧(↑z.snd.1:Int)<(↑C.1:Int)∧True∧True∧(0:Nat)+(2:Nat)≤(2:Nat)∧(0:Nat)+(↑z.snd.1:Int).toNat<C.1∧(∀ (i':Nat),rE true)∧True∧True∧(0:Int)≤(↑z.snd.1:Int) - (1:Int)∧(↑z.snd.1:Int) - (1:Int)<(↑C.1:Int)∧True∧True∧(0:Nat)+(2:Nat)≤(2:Nat)∧(0:Nat)+((↑z.snd.1:Int) - (1:Int)).toNat<C.1∧(∀ (i':Nat),rE true)∧(in3 C.n (1:Nat) (gB w C)
((↑z.fst:Int).toNat,(↑z.snd.fst:Int).toNat,fun i=>grOf (putR (putR (fun i=>(z.snd.snd i).sv) ((0:Nat)+(↑z.snd.fst:Int).toNat) (0:Nat) (SV.agg [i6 (z.snd.snd ((0:Nat)+((↑z.snd.fst:Int) - (1:Int)).toNat)).co,i6 (z.snd.snd ((0:Nat)+((↑z.snd.fst:Int) - (1:Int)).toNat)).gv])) ((0:Nat)+((↑z.snd.fst:Int) - (1:Int)).toNat) (0:Nat) (SV.agg [i6 (z.snd.snd ((0:Nat)+(↑z.snd.fst:Int).toNat)).co,i6 (z.snd.snd ((0:Nat)+(↑z.snd.fst:Int).toNat)).gv]) i))∧rE ((↑z.1:Int).toNat*(64:Nat)+(↑z.snd.1:Int).toNat))∧rE (0:Nat)∧C.1=C.1∧rE (0:Int)∧rE (↑C.1:Int)∧rE (Value.func (Fn.func ((57:Nat)+(2:Nat)*(1:Nat))) #[] #[])∧(↑z.1:Int)=(↑(↑z.1:Int).toNat:Int)∧(↑z.snd.1:Int)=(↑(↑z.snd.1:Int).toNat:Int)∧C.1=C.1∧(∀ (i:Nat),i<C.1→rE (2:Nat)∧rE ((stA w C i).1)∧rE ((stA w C
i).2)∧True)∧C.1=C.1∧(∀ (i:Nat),i<C.1→rE (2:Nat)∧((if i=(0:Nat)+((↑z.snd.1:Int) - (1:Int)).toNat then (z.snd.snd ((0:Nat)+(↑z.snd.fst:Int).toNat)).1 else if i=(0:Nat)+(↑z.snd.1:Int).toNat then (z.snd.snd ((0:Nat)+((↑z.snd.fst:Int) - (1:Int)).toNat)).1 else (z.snd.snd i).1)=if i=(0:Nat)+((↑z.snd.1:Int) - (1:Int)).toNat then (z.snd.snd ((0:Nat)+(↑z.snd.fst:Int).toNat)).1 else if i=(0:Nat)+(↑z.snd.1:Int).toNat then (z.snd.snd ((0:Nat)+((↑z.snd.fst:Int) - (1:Int)).toNat)).1 else (z.snd.snd i).1)∧((if i=(0:Nat)+((↑z.snd.1:Int) - (1:Int)).toNat then (z.snd.snd ((0:Nat)+(↑z.snd.fst:Int).toNat)).2 else if i=(0:Nat)+(↑z.snd.1:Int).toNat then (z.snd.snd ((0:Nat)+((↑z.snd.fst:Int) - (1:Int)).toNat)).2 else (z.snd.snd i).2)=if i=(0:Nat)+((↑z.snd.1:Int) - (1:Int)).toNat
then (z.snd.snd ((0:Nat)+(↑z.snd.fst:Int).toNat)).2 else if i=(0:Nat)+(↑z.snd.1:Int).toNat then (z.snd.snd ((0:Nat)+((↑z.snd.fst:Int) - (1:Int)).toNat)).2 else (z.snd.snd i).2)∧True)∧True)∧True)∧∀ (z_3:Nat × Nat × (Nat→Gr)),in3 C.n (1:Nat) (gB w C) z_3∧z_3.1*(64:Nat)+z_3.snd.1=(↑z.1:Int).toNat*(64:Nat)+(↑z.snd.1:Int).toNat→rI ((↑z_3.snd.1:Int) - (1:Int))∧(in2 C.n (1:Nat) (gB w C) ((↑z_3.fst:Int).toNat,((↑z_3.snd.fst:Int) - (1:Int)).toNat,fun i=>grOf (z_3.snd.snd i).sv)∧(↑z_3.1:Int).toNat=(↑z_2.1:Int).toNat)∧((↑z_3.snd.1:Int) - (1:Int)).toNat<z.snd.1∧rE (0:Nat)∧C.1=C.1∧rE (0:Int)∧rE (↑C.1:Int)∧rE (Value.func (Fn.func ((57:Nat)+(2:Nat)*(1:Nat))) #[] #[])∧(↑z_3.1:Int)=(↑(↑z_3.1:Int).toNat:Int)∧(↑z_3.snd.1:Int) - (1:Int)=(↑((↑z_3.snd.1 :
Int) - (1:Int)).toNat:Int)∧C.1=C.1∧(∀ (i:Nat),i<C.1→rE (2:Nat)∧rE ((stA w C i).1)∧rE ((stA w C i).2)∧True)∧C.1=C.1∧(∀ (i:Nat),i<C.1→rE (2:Nat)∧rE ((z_3.snd.snd i).1)∧rE ((z_3.snd.snd i).2)∧True)∧True)∧(¬cmW (1:Nat) (Gr.mk (z.snd.snd ((0:Nat)+(↑z.snd.fst:Int).toNat)).co (z.snd.snd ((0:Nat)+(↑z.snd.fst:Int).toNat)).gv) (Gr.mk (z.snd.snd ((0:Nat)+((↑z.snd.fst:Int) - (1:Int)).toNat)).co (z.snd.snd ((0:Nat)+((↑z.snd.fst:Int) - (1:Int)).toNat)).gv)<(0:Int)→rI ((↑z.1:Int)+(1:Int))∧in1 C.n (1:Nat) (gB w C) (((↑z.fst:Int)+(1:Int)).toNat,fun i=>grOf (z.snd.snd i).sv)∧C.1 - ((↑z.1:Int)+(1:Int)).toNat<C.1 - z_2.1∧rE (0:Nat)∧C.1=C.1∧rE (0:Int)∧rE (↑C.1:Int)∧rE (Value.func (Fn.func ((57:Nat)+(2:Nat)*(1:Nat))) #[] #[])∧(↑z.1:Int) +
(1:Int)=(↑((↑z.1:Int)+(1:Int)).toNat:Int)∧C.1=C.1∧(∀ (i:Nat),i<C.1→rE (2:Nat)∧rE ((stA w C i).1)∧rE ((stA w C i).2)∧True)∧C.1=C.1∧(∀ (i:Nat),i<C.1→rE (2:Nat)∧rE ((z.snd.snd i).1)∧rE ((z.snd.snd i).2)∧True)∧True))∧(¬(0:Int)<(↑z.snd.1:Int)→rI ((↑z.1:Int)+(1:Int))∧in1 C.n (1:Nat) (gB w C) (((↑z.fst:Int)+(1:Int)).toNat,fun i=>grOf (z.snd.snd i).sv)∧C.1 - ((↑z.1:Int)+(1:Int)).toNat<C.1 - z_2.1∧rE (0:Nat)∧C.1=C.1∧rE (0:Int)∧rE (↑C.1:Int)∧rE (Value.func (Fn.func ((57:Nat)+(2:Nat)*(1:Nat))) #[] #[])∧(↑z.1:Int)+(1:Int)=(↑((↑z.1:Int)+(1:Int)).toNat:Int)∧C.1=C.1∧(∀ (i:Nat),i<C.1→rE (2:Nat)∧rE ((stA w C i).1)∧rE ((stA w C i).2)∧True)∧C.1=C.1∧(∀ (i:Nat),i<C.1→rE (2:Nat)∧rE ((z.snd.snd
i).1)∧rE ((z.snd.snd i).2)∧True)∧True))∧(¬(↑z_2.1:Int)<(↑C.1:Int)→((20:Int)<(↑z:Int)→rI ((2:Int)*(20:Int))∧False)∧(¬(20:Int)<(↑z:Int)→z=C.1∧(0:Nat)+C.1≤C.1∧(∀ (i:Nat),i<C.1→rE (2:Nat)∧rE (2:Nat)∧(stA w C (i+(0:Nat))).1=(stA w C i).1∧(stA w C (i+(0:Nat))).2=(stA w C i).2∧True)∧z=C.1∧(0:Nat)+C.1≤C.1∧(∀ (i:Nat),i<C.1→rE (2:Nat)∧rE (2:Nat)∧(z_2.snd (i+(0:Nat))).1=(stB w C i).1∧(z_2.snd (i+(0:Nat))).2=(stB w C i).2∧True)∧True))))))))
theorem gr0_vc (C:Cl):gr0 C=grT 0 C:=by kernel_rfl
theorem gr1_vc (C:Cl):gr1 C=grT 1 C:=by kernel_rfl
theorem gr2_vc (C:Cl):gr2 C=grT 2 C:=by kernel_rfl
theorem gr3_vc (C:Cl):gr3 C=grT 3 C:=by kernel_rfl
end Go.Proofs.Ytmohedjgoakdjaa

set_option maxRecDepth 100000
namespace Go.Proofs.Ytmohedjgoakdjaa
open Go Go.Lg
attribute [local irreducible] funS bodyH
theorem gr_fold (g:Gr):grOf g.sv=g:=rfl
theorem grm_fold (g:Gr):Gr.mk g.co g.gv=g:=rfl
def upG (f:Nat→Gr) (i:Nat) (x:Gr) (k:Nat):Gr:=⟨if k=i then x.co else (f k).co,if k=i then x.gv else (f k).gv⟩
theorem putR_up (f:Nat→Gr) (i:Nat) (x:Gr):putR (fun i=>(f i).sv) i 0 (SV.agg [i6 x.co,i6 x.gv])=fun k=>(upG f i x k).sv:=rfl
theorem up_swp {f:Nat→Gr} {j k:Nat}:upG (upG f (j+1) (f j)) j (f (j+1)) k=swp f (j+1) k:=by
 unfold upG swp
 by_cases e:k=j
 ·subst e
  have h:k+1 - 1=k:=by omega
  simp only [h,if_true]
 ·have h:j+1 - 1=j:=by omega
  simp only [h,if_neg e]
  by_cases e2:k=j+1
  ·simp only [if_pos e2]
  ·simp only [if_neg e2]
theorem swp_congr {f g:Nat→Gr} {q j:Nat} (h:∀ k,k<q→f k=g k) (hj:j<q):∀ k,k<q→swp f j k=swp g j k:=fun k hk=>by
 unfold swp
 split
 ·exact h j hj
 ·split
  ·exact h _ (by omega)
  ·exact h k hk
theorem inF_congr {w q:Nat}:∀ {j:Nat} {f g:Nat→Gr},(∀ k,k<q→f k=g k)→j<q→∀ k,k<q→inF w f j k=inF w g j k
 | 0,f,g,h,_,k,hk=>h k hk
 | j+1,f,g,h,hj,k,hk=>by
  simp only [inF]
  rw [h (j+1) hj,h j (by omega)]
  split
  ·exact inF_congr (swp_congr h hj) (by omega) k hk
  ·exact h k hk
theorem so_nx {q w:Nat} {g:Nat→Gr} (hq:q≤6) {i:Nat} {f:Nat→Gr} (h1:1≤i) (h2:i<q) (hf:∀ k,k<q→f k=stF w g (i+1) k) :
  (-9223372036854775808≤(i:Int)+1∧(i:Int)+1≤9223372036854775807)∧in1 q w g (((i:Int)+1).toNat,fun i=>f i)∧q - ((i:Int)+1).toNat<q - i∧(i:Int)+1=((((i:Int)+1).toNat:Nat):Int):=by
 have e:((i:Int)+1).toNat=i+1:=by omega
 rw [e]
 exact ⟨by omega,⟨by show 1≤i+1; omega,by show i+1≤max 1 q; omega,hf⟩,by omega,by omega⟩
theorem so_in {q w:Nat} {g:Nat→Gr} (hq:q≤6) {i j:Nat} {f:Nat→Gr} (hz:in2 q w g (i,j+1,f)) :
  (cmW w (f (j+1)) (f j)<0→in3 q w g (i,j+1,fun k=>grOf (putR (putR (fun i=>(f i).sv) (j+1) 0 (SV.agg [i6 (f j).co,i6 (f j).gv])) j 0 (SV.agg [i6 (f (j+1)).co,i6 (f (j+1)).gv]) k))) ∧
  (¬ cmW w (f (j+1)) (f j)<0→∀ k,k<q→f k=stF w g (i+1) k):=by
 refine ⟨fun hc=>?_,fun hc k hk=>?_⟩
 ·rw [putR_up,putR_up]
  refine ⟨hz.a,hz.b,hz.c,by show 1≤j+1; omega,fun k hk=>?_⟩
  show inF w (fun k=>grOf (upG (upG f (j+1) (f j)) j (f (j+1)) k).sv) j k=_
  have e:(fun k=>grOf (upG (upG f (j+1) (f j)) j (f (j+1)) k).sv)=swp f (j+1):=funext fun k=>up_swp
  rw [e]
  have:=hz.f k hk
  simp only [inF] at this
  rw [if_pos hc] at this
  exact this
 ·have:=hz.f k hk
  simp only [inF] at this
  rw [if_neg hc] at this
  exact this
theorem so_bk {q w:Nat} {g:Nat→Gr} {i j:Nat} {f:Nat→Gr} (hq:q≤6) (h2:in3 q w g (i,j+1,f)) (hj:j+1≤i) :
  (-9223372036854775808≤((j+1:Nat):Int) - 1∧((j+1:Nat):Int) - 1≤9223372036854775807)∧(in2 q w g (i,(((j+1:Nat):Int) - 1).toNat,fun k=>f k)∧i=i)∧(((j+1:Nat):Int) - 1).toNat<j+1∧((j+1:Nat):Int) - 1=(((((j+1:Nat):Int) - 1).toNat:Nat):Int):=by
 have ej:(((j+1:Nat):Int) - 1).toNat=j:=by omega
 rw [ej]
 have b:=h2.b
 simp only at b
 exact ⟨by omega,⟨⟨h2.a,h2.b,by show j≤i; omega,h2.f⟩,rfl⟩,by omega,by omega⟩
theorem gr_true {w:Nat} {C:Cl} (hC:C.n≤6):grT w C:=by
 unfold grT
 simp only [rI,rE,tt3,tt4,tt5,tt13,tt14,and_true,true_and,Nat.zero_lt_one,and_self,implies_true,Int.toNat_natCast,Nat.zero_add,Nat.add_zero,Nat.one_mul,Nat.mul_one,Classical.not_not,iff_self,Bool.false_eq_true,imp_false,and_imp,true_implies,forall_const,gr_fold,grm_fold]
 refine ⟨⟨0,by omega,rfl,rfl,rfl,rfl⟩,fun z hz=>⟨fun hl=>⟨by omega,hl,by omega,by omega,by omega,by omega,by omega,z+1,by omega,by omega,rfl,rfl,by omega,rfl,fun i hi=>?_,rfl,fun i hi=>?_⟩,fun hl=>⟨fun h=>by omega,fun _=>⟨by omega,⟨⟨Nat.le_refl 1,by show (0+1:Int).toNat≤max 1 C.n; omega,fun k hk=>rfl⟩,by omega,by omega,rfl,by omega⟩,?_⟩⟩⟩⟩
 ·by_cases e:i<z
  ·simp only [if_pos e]; exact ⟨trivial,trivial⟩
  ·have:i=z:=by omega
   subst this; simp only [if_neg e]; exact ⟨trivial,trivial⟩
 ·by_cases e:i<z
  ·simp only [if_pos e]; exact ⟨trivial,trivial⟩
  ·have:i=z:=by omega
   subst this; simp only [if_neg e]; exact ⟨trivial,trivial⟩
 rintro ⟨i,f⟩ hi
 have a1:=hi.a
 have a2:=hi.b
 have a3:=hi.f
 simp only at a1 a2 a3 ⊢
 refine ⟨fun hl=>⟨⟨a1,by show i<C.n; omega,Nat.le_refl _,fun k hk=>inF_congr a3 (by show i<C.n; omega) k hk⟩,?_⟩,fun hl=>?_⟩
 ·rintro ⟨i',j,f'⟩ hj e
  simp only at e
  subst e
  have b1:=hj.b
  have b2:=hj.c
  have b3:=hj.f
  simp only at b1 b2 b3 ⊢
  refine ⟨fun h0=>?_,fun h0=>so_nx hC a1 b1 fun k hk=>?_⟩
  ·obtain ⟨j,rfl⟩:∃ j',j=j'+1:=⟨j - 1,by omega⟩
   have ej:(((j+1:Nat):Int) - 1).toNat=j:=by omega
   rw [ej]
   obtain ⟨s1,s2⟩:=so_in hC hj
   refine ⟨by omega,by omega,by omega,by omega,by omega,by omega,by omega,fun hc=>⟨⟨by omega,by omega,by omega,by omega,by omega,by omega,by omega,by omega,by omega,by omega,by omega,by omega,by omega,by omega,by omega,by omega,s1 hc⟩,?_⟩,fun hc=>so_nx hC a1 b1 (s2 hc)⟩
   rintro ⟨i2,j2,f2⟩ h2 e2
   have c1:=h2.b
   have c2:=h2.c
   have c3:=h2.d
   simp only at e2 c1 c2 c3 ⊢
   obtain ⟨rfl,rfl⟩:i2=i'∧j2=j+1:=by omega
   exact so_bk hC h2 c2
  ·have e0:j=0:=by omega
   subst e0
   exact b3 k hk
 ·refine ⟨fun h=>by omega,fun _=>⟨fun h=>by omega,fun _=>⟨by omega,⟨⟨Nat.le_refl 1,by show (0+1:Int).toNat≤max 1 C.n; omega,fun k hk=>rfl⟩,by omega,by omega,rfl,fun k hk=>?_⟩,?_⟩⟩⟩
  ·by_cases hn:C.n=0
   ·omega
   ·have:i=C.n:=by omega
    subst this
    have:=a3 k hk
    rw [this]; exact ⟨rfl,rfl⟩
  rintro ⟨i2,f2⟩ hi2
  have d1:=hi2.a
  have d2:=hi2.b
  have d3:=hi2.f
  simp only at d1 d2 d3 ⊢
  refine ⟨fun hl=>⟨⟨d1,by show i2<C.n; omega,Nat.le_refl _,fun k hk=>inF_congr d3 (by show i2<C.n; omega) k hk⟩,?_⟩,fun hl=>⟨fun h=>by omega,fun _=>⟨by omega,Nat.le_refl _,by omega,Nat.le_refl _,fun k hk=>?_⟩⟩⟩
  ·rintro ⟨i',j,f'⟩ hj e
   simp only at e
   subst e
   have b1:=hj.b
   have b2:=hj.c
   have b3:=hj.f
   simp only at b1 b2 b3 ⊢
   refine ⟨fun h0=>?_,fun h0=>so_nx hC d1 b1 fun k hk=>?_⟩
   ·obtain ⟨j,rfl⟩:∃ j',j=j'+1:=⟨j - 1,by omega⟩
    have ej:(((j+1:Nat):Int) - 1).toNat=j:=by omega
    rw [ej]
    obtain ⟨s1,s2⟩:=so_in hC hj
    refine ⟨by omega,by omega,by omega,by omega,by omega,by omega,by omega,fun hc=>⟨⟨by omega,by omega,by omega,by omega,by omega,by omega,by omega,by omega,by omega,by omega,by omega,by omega,by omega,by omega,by omega,by omega,s1 hc⟩,?_⟩,fun hc=>so_nx hC d1 b1 (s2 hc)⟩
    rintro ⟨i2,j2,f2⟩ h2 e2
    have c1:=h2.b
    have c2:=h2.c
    have c3:=h2.d
    simp only at e2 c1 c2 c3 ⊢
    obtain ⟨rfl,rfl⟩:i2=i'∧j2=j+1:=by omega
    exact so_bk hC h2 c2
   ·have e0:j=0:=by omega
    subst e0
    exact b3 k hk
  ·have:i2=C.n:=by omega
   subst this
   have:=d3 k hk
   rw [this]; exact ⟨rfl,rfl⟩
theorem nan_true (a:Int):nanG a:=by rw [nanG_vc]; simp
theorem nan_ok:nanC.Ok Try.prog:=by
 refine ⟨by kernel_rfl,fun x k hk=>?_⟩
 simp only [nanC] at hk
 split at hk
 ·rename_i a
  exact ⟨_,plainD nilS_cs nilS_x nilS_ic (nan_true a) trivial,hk⟩
 ·exact hk.elim
theorem cp_true (a b:Int):cpG a b:=by
 rw [cpG_vc]
 simp only [and_true,cmpI]
 refine ⟨fun h=>by rw [if_pos h],fun h=>⟨fun h2=>by rw [if_neg h,if_pos h2],fun h2=>by rw [if_neg h,if_neg h2]⟩⟩
theorem cp_ok:cpC.Ok Try.prog:=by
 refine ⟨by kernel_rfl,fun x k hk=>?_⟩
 simp only [cpC] at hk
 split at hk
 ·rename_i a b
  exact ⟨_,plainD (one_cs nan_ok) nilS_x nilS_ic (cp_true a b) trivial,hk⟩
 ·exact hk.elim
theorem co_true (a b:Gr):coG a b:=by
 rw [coG_vc]
 simp only [and_true,true_and,Nat.zero_lt_one]
 rfl
theorem co_true' (a b:Gr):coG' a b:=by
 rw [coG'_vc]
 simp only [and_true,true_and,Nat.zero_lt_one]
 rfl
theorem co_ok:coC.Ok Try.prog:=by
 refine ⟨by kernel_rfl,fun x k hk=>?_⟩
 simp only [coC] at hk
 split at hk
 ·rename_i a b c d
  exact ⟨_,plainD (one_cs cp_ok) nilS_x nilS_ic (co_true ⟨a,b⟩ ⟨c,d⟩) trivial,hk⟩
 ·exact hk.elim
theorem co_ok':coC'.Ok Try.prog:=by
 refine ⟨by kernel_rfl,fun x k hk=>?_⟩
 simp only [coC'] at hk
 split at hk
 ·rename_i a b c d
  exact ⟨_,plainD (one_cs cp_ok) nilS_x nilS_ic (co_true' ⟨a,b⟩ ⟨c,d⟩) trivial,hk⟩
 ·exact hk.elim
theorem csS_sound:SoundS Try.prog csS:=ctrs_sound (by
 intro x hx
 simp at hx
 rcases hx with rfl | rfl
 ·exact co_ok
 ·exact co_ok')
theorem w0_ok:w0C.Ok Try.prog:=by
 refine ⟨by kernel_rfl,fun x k hk=>?_⟩
 simp only [w0C] at hk
 split at hk
 ·rename_i a b c d e f g h
  exact ⟨_,plainD nilS_cs nilS_x nilS_ic (g0_true ⟨a,b,c,d,e,f,g,h⟩) (by simp [plainS,plainS.plainL]),hk⟩
 ·exact hk.elim
theorem w1_ok:w1C.Ok Try.prog:=by
 refine ⟨by kernel_rfl,fun x k hk=>?_⟩
 simp only [w1C] at hk
 split at hk
 ·rename_i a b c d e f g h
  exact ⟨_,plainD nilS_cs nilS_x nilS_ic (g1_true ⟨a,b,c,d,e,f,g,h⟩) (by simp [plainS,plainS.plainL]),hk⟩
 ·exact hk.elim
theorem w2_ok:w2C.Ok Try.prog:=by
 refine ⟨by kernel_rfl,fun x k hk=>?_⟩
 simp only [w2C] at hk
 split at hk
 ·rename_i a b c d e f g h
  exact ⟨_,plainD nilS_cs nilS_x nilS_ic (g2_true ⟨a,b,c,d,e,f,g,h⟩) (by simp [plainS,plainS.plainL]),hk⟩
 ·exact hk.elim
theorem w3_ok:w3C.Ok Try.prog:=by
 refine ⟨by kernel_rfl,fun x k hk=>?_⟩
 simp only [w3C] at hk
 split at hk
 ·rename_i a b c d e f g h
  exact ⟨_,plainD nilS_cs nilS_x nilS_ic (g3_true ⟨a,b,c,d,e,f,g,h⟩) (by simp [plainS,plainS.plainL]),hk⟩
 ·exact hk.elim
theorem csW_sound:SoundS Try.prog csW:=ctrs_sound (by
 intro x hx
 simp at hx
 rcases hx with rfl | rfl | rfl | rfl
 ·exact w0_ok
 ·exact w1_ok
 ·exact w2_ok
 ·exact w3_ok)
theorem soX_sound {γ:GS→noGhost.S} (r n w:Nat) (g:Nat→Gr) (X:(Nat→Gr)→XS):SoundXH Try.prog noGhost γ (soX r n w g X):=by
 unfold soX
 exact inl_sound csS_sound (inl_sound csS_sound (inl_sound csS_sound nilS_x (ys:=none) trivial nilS_ic mixed) (ys:=none) trivial nilS_ic mixed) (ys:=none) trivial nilS_ic mixed
theorem gr_all {w:Nat} {C:Cl} (hw:w<4) (hC:C.n≤6):grG w C:=by
 match w,hw with
 | 0,_=>exact (show gr0 C by rw [gr0_vc]; exact gr_true hC)
 | 1,_=>exact (show gr1 C by rw [gr1_vc]; exact gr_true hC)
 | 2,_=>exact (show gr2 C by rw [gr2_vc]; exact gr_true hC)
 | 3,_=>exact (show gr3 C by rw [gr3_vc]; exact gr_true hC)
noncomputable def grC:Ctr:=⟨41,fun args k=>match args with
 | [.lst 8 n f,.val v]=>SV.lst 8 n f=(clOf n f).sv∧n≤6∧∃ z:Nat,z<4∧SV.val v=fv (60+z)∧k (grR z (clOf n f))
 | _=>False⟩
theorem gr_ok:grC.Ok Try.prog:=by
 refine ⟨by kernel_rfl,fun x k hk=>?_⟩
 simp only [grC] at hk
 split at hk
 ·rename_i n f v
  obtain ⟨hf,hn,z,hz,hv,hk⟩:=hk
  have hh:=gr_all (w:=z) (C:=clOf n f) hz hn
  unfold grG at hh
  rw [← hf,← hv] at hh
  refine ⟨_,newD csW_sound (altX_sound (soX_sound _ _ _ _ _) (soX_sound _ _ _ _ _)) nilS_ic hh (by simp [flatS,flatSL,scS,SV.cells,grL,Gr.sv,grR]),hk⟩
 ·exact hk.elim
end Go.Proofs.Ytmohedjgoakdjaa
