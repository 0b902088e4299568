import Derived.ProofKit
import Derived.Test.YtfiaadlgfjokjaaProg
import Derived.Test.YtfiaadlgfjokjaaPfPgPhPiPjPk
import Derived.Test.YtfiaadlgfjokjaaPn
set_option linter.unusedVariables false
set_option linter.unusedSimpArgs false
namespace Go.Proofs.Ytfiaadlgfjokjaa
open Go Go.Lg
attribute [local irreducible] bodyH
def rI (x : Int) : Prop := -9223372036854775808 ≤ x ∧ x ≤ 9223372036854775807
def rE {α : Type} (a : α) : Prop := a = a
def tt3 : Prop := True ∧ True ∧ True
def tt4 : Prop := True ∧ True ∧ True ∧ True
def tt5 : Prop := True ∧ True ∧ True ∧ True ∧ True
def tt13 : Prop := True ∧ True ∧ True ∧ True ∧ True ∧ True ∧ True ∧ True ∧ True ∧ True ∧ True ∧ True ∧ True
def tt14 : Prop := True ∧ tt13
noncomputable def appN (n s1 : Nat) (inv : Nat → Prop) (μ : Nat → Nat) (nr : Nat) (t : Nat → FS) (X : Nat → XS) : HSpec :=
  { toLSpec := { σ := Nat, inv := inv, μ := μ, nr := nr, t := t, X := X, rd := fun _ _ k => ∃ z, k z, rdOK := fun _ _ _ h => h,
                 ms := fun t _ => match sget n t s1 with
                   | .sl r _ _ => [some r]
                   | _ => [none] } }
theorem rd2 {n s1 s2 : Nat} (t : FS) (X : XS) (k : Nat × Nat → Prop) (h : (match sget n t s1, sget n t s2 with
    | .int _ a, .int _ b => k (a.toNat, b.toNat)
    | _, _ => False)) : ∃ s, k s := by
  split at h
  · exact ⟨_, h⟩
  · exact h.elim
noncomputable def twH (n s1 s2 nr : Nat) (inv : Nat × Nat → Prop) (μ : Nat × Nat → Nat) (t : Nat × Nat → FS) (X : Nat × Nat → XS) : HSpec :=
  { toLSpec := { σ := Nat × Nat, inv := inv, μ := μ, nr := nr, ms := fun _ _ => [], t := t, X := X, rd := fun t X k => (match sget n t s1, sget n t s2 with
    | .int _ a, .int _ b => k (a.toNat, b.toNat)
    | _, _ => False), rdOK := rd2 }, par := some ⟨fun t _ k => match sget n t s1 with
    | .int _ a => k a.toNat
    | _ => False, rdI⟩, kinv := fun y s => s.1 = y }
structure Mv where
  hr : Int
  co : Int
  tn : Int
def Mv.sv (m : Mv) : SV := .agg [i6 m.hr, i6 m.co, i6 m.tn]
def mvOf : SV → Mv
  | .agg [.int _ a, .int _ b, .int _ c] => ⟨a, b, c⟩
  | _ => ⟨0, 0, 0⟩
structure Co where
  g0 : Int
  g1 : Int
  t0 : Int
  t1 : Int
  s0 : Int
  s1 : Int
  k0 : Int
  k1 : Int
def Co.sv (c : Co) : SV := .agg [i6 c.g0, i6 c.g1, i6 c.t0, i6 c.t1, i6 c.s0, i6 c.s1, i6 c.k0, i6 c.k1]
def coOf : SV → Co
  | .agg [.int _ a, .int _ b, .int _ c, .int _ d, .int _ e, .int _ f, .int _ g, .int _ h] => ⟨a, b, c, d, e, f, g, h⟩
  | _ => ⟨0, 0, 0, 0, 0, 0, 0, 0⟩
structure Ms where
  n : Nat
  f : Nat → Mv
def Ms.sv (M : Ms) : SV := .lst 3 M.n fun i => (M.f i).sv
def msOf (n : Nat) (f : Nat → SV) : Ms := ⟨n, fun i => mvOf (f i)⟩
structure Cl where
  n : Nat
  f : Nat → Co
def Cl.sv (C : Cl) : SV := .lst 8 C.n fun i => (C.f i).sv
def clOf (n : Nat) (f : Nat → SV) : Cl := ⟨n, fun i => coOf (f i)⟩
structure Yd where
  c : Cl
  m : Ms
def Yd.sv (Y : Yd) : SV := .agg [Y.c.sv, Y.m.sv]
def tA (Y : Yd) : Prop := ∀ i, i < Y.c.n → True ∧ True ∧ True ∧ True ∧ True ∧ True ∧ True ∧ True ∧ True
def tB (Y : Yd) : Prop := ∀ i, i < Y.m.n → True ∧ True ∧ True ∧ True
def tC (Y : Yd) : Prop := Y.c.sv = Y.c.sv
def tD (Y : Yd) : Prop := Y.m.sv = Y.m.sv
structure Tw where
  lo : Int
  hi : Int
def Tw.sv (t : Tw) : SV := .agg [i6 t.lo, i6 t.hi]
def tOf : SV → Tw
  | .agg [.int _ a, .int _ b] => ⟨a, b⟩
  | _ => ⟨0, 0⟩
structure okSp (lo hi : Int) : Prop where
  a : 0 ≤ lo
  b : lo ≤ hi
  c : hi ≤ 100000
structure okCo (c : Co) : Prop where
  g : okSp c.g0 c.g1
  t : okSp c.t0 c.t1
  s : okSp c.s0 c.s1
  k : okSp c.k0 c.k1
structure okCl (C : Cl) : Prop where
  a : 1 ≤ C.n
  b : C.n ≤ 6
  h : ∀ i, i < C.n → okCo (C.f i)
def pv (M : Ms) : Nat → Int
  | 0 => 0
  | k + 1 => (M.f k).hr
structure okMv (c : Int) (M : Ms) (i : Nat) : Prop where
  h0 : pv M i ≤ (M.f i).hr
  h1 : (M.f i).hr ≤ 1048576
  c0 : -1 ≤ (M.f i).co
  c1 : (M.f i).co < c
  t0 : 1 ≤ (M.f i).tn
  t1 : (M.f i).tn ≤ 1048576
structure okMs (c : Int) (M : Ms) : Prop where
  n : M.n ≤ 32
  h : ∀ i, i < M.n → okMv c M i
noncomputable def sumJ (g : Nat → Int) : Nat → Int
  | 0 => 0
  | j + 1 => sumJ g j + g j
def dl (M : Ms) (i : Nat) : Int := if (M.f i).co = -1 then -(M.f i).tn else (M.f i).tn
noncomputable def lf (M : Ms) (k : Nat) : Int := sumJ (dl M) k
def okSh (M : Ms) (k : Nat) : Prop := ∀ i, i < k → (M.f i).co = -1 → 0 ≤ lf M (i + 1)
open Classical in
noncomputable def ckY (Y : Yd) : Int := if okCl Y.c ∧ okMs Y.c.n Y.m then (if okSh Y.m Y.m.n then 0 else 10) else 1
def fv (g : Nat) : SV := .val (.func (.func g) #[] #[])
noncomputable def gdC : Ctr := ⟨42, fun args k => match args with
  | [] => k (.agg [fv 60, fv 61, fv 62, fv 63])
  | _ => False⟩
noncomputable def gdG : Prop := funH Try.prog (ctrs []) noX (ictrs []) noL noL 42 [] (.agg [fv 60, fv 61, fv 62, fv 63])
def g0C : Ctr := ⟨60, fun args k => match args with
  | [.agg [.int .i64 a, .int .i64 b, .int .i64 _, .int .i64 _, .int .i64 _, .int .i64 _, .int .i64 _, .int .i64 _]] => k (.agg [i6 a, i6 b])
  | _ => False⟩
def g1C : Ctr := ⟨61, fun args k => match args with
  | [.agg [.int .i64 _, .int .i64 _, .int .i64 a, .int .i64 b, .int .i64 _, .int .i64 _, .int .i64 _, .int .i64 _]] => k (.agg [i6 a, i6 b])
  | _ => False⟩
def g2C : Ctr := ⟨62, fun args k => match args with
  | [.agg [.int .i64 _, .int .i64 _, .int .i64 _, .int .i64 _, .int .i64 a, .int .i64 b, .int .i64 _, .int .i64 _]] => k (.agg [i6 a, i6 b])
  | _ => False⟩
def g3C : Ctr := ⟨63, fun args k => match args with
  | [.agg [.int .i64 _, .int .i64 _, .int .i64 _, .int .i64 _, .int .i64 _, .int .i64 _, .int .i64 a, .int .i64 b]] => k (.agg [i6 a, i6 b])
  | _ => False⟩
noncomputable def g0G (c : Co) : Prop := funH Try.prog (ctrs []) noX (ictrs []) noL noL 60 [c.sv] (.agg [i6 c.g0, i6 c.g1])
noncomputable def g1G (c : Co) : Prop := funH Try.prog (ctrs []) noX (ictrs []) noL noL 61 [c.sv] (.agg [i6 c.t0, i6 c.t1])
noncomputable def g2G (c : Co) : Prop := funH Try.prog (ctrs []) noX (ictrs []) noL noL 62 [c.sv] (.agg [i6 c.s0, i6 c.s1])
noncomputable def g3G (c : Co) : Prop := funH Try.prog (ctrs []) noX (ictrs []) noL noL 63 [c.sv] (.agg [i6 c.k0, i6 c.k1])
noncomputable def csV : CSpec := ctrs [gdC, g0C, g1C, g2C, g3C]
def spJ (c : Co) : Nat → Prop
  | 0 => okSp c.g0 c.g1
  | 1 => okSp c.t0 c.t1
  | 2 => okSp c.s0 c.s1
  | _ => okSp c.k0 c.k1
noncomputable def vcG (C : Cl) : Prop := funH Try.prog csV noX (ictrs [])
  (twoL 0 (natH (fun k => k ≤ C.n ∧ ∀ i, i < k → okCo (C.f i)) (fun k => C.n - k) 0 (fun k => mkF 46 [(16, C.sv), (17, i6 C.n), (18, i6 k)]) (fun _ => mkX []) fun _ => none)
  (oneL 2 (twH 46 18 23 1 (fun s => s.1 < C.n ∧ s.2 ≤ 4 ∧ (∀ i, i < s.1 → okCo (C.f i)) ∧ ∀ j, j < s.2 → spJ (C.f s.1) j) (fun s => 4 - s.2) (fun s => mkF 46 [(4, .ptr 0 0 0), (16, C.sv), (17, i6 C.n), (18, i6 s.1), (22, .agg [fv 60, fv 61, fv 62, fv 63]), (23, i6 s.2)]) fun s => mkX [vr 8 (C.f s.1).sv]))) noL 53 [C.sv] (.dec (okCl C) (Classical.propDecidable _))
noncomputable def vcC : Ctr := ⟨53, fun args k => match args with
  | [.lst 8 n f] => SV.lst 8 n f = (clOf n f).sv ∧ k (.dec (okCl (clOf n f)) (Classical.propDecidable _))
  | _ => False⟩
noncomputable def vmG (M : Ms) (c : Int) : Prop := funH Try.prog (ctrs []) noX (ictrs [])
  (oneL 0 (natH (fun k => k ≤ M.n ∧ M.n ≤ 32 ∧ ∀ i, i < k → okMv c M i) (fun k => M.n - k) 0 (fun k => mkF 56 [(0, M.sv), (1, i6 c), (5, i6 (pv M k)), (6, i6 k), (12, M.sv), (13, i6 M.n), (14, i6 k)]) (fun _ => mkX []) fun _ => none)) noL 54 [M.sv, i6 c] (.dec (okMs c M) (Classical.propDecidable _))
noncomputable def vmC : Ctr := ⟨54, fun args k => match args with
  | [.lst 3 n f, .int .i64 c] => SV.lst 3 n f = (msOf n f).sv ∧ k (.dec (okMs c (msOf n f)) (Classical.propDecidable _))
  | _ => False⟩
noncomputable def shG (M : Ms) : Prop := funH Try.prog (ctrs []) noX (ictrs [])
  (oneL 0 (natH (fun k => k ≤ M.n ∧ okSh M k) (fun k => M.n - k) 0 (fun k => mkF 26 [(3, i6 (lf M k)), (6, M.sv), (7, i6 M.n), (8, i6 k)]) (fun _ => mkX []) fun _ => none)) noL 55 [M.sv] (.dec (¬ okSh M M.n) (Classical.propDecidable _))
noncomputable def shC : Ctr := ⟨55, fun args k => match args with
  | [.lst 3 n f] => SV.lst 3 n f = (msOf n f).sv ∧ (∃ c : Int, okMs c (msOf n f)) ∧ k (.dec (¬ okSh (msOf n f) n) (Classical.propDecidable _))
  | _ => False⟩
noncomputable def ckG (Y : Yd) : Prop := funH Try.prog (ctrs [vcC, vmC, shC]) noX (ictrs []) noL noL 35 [Y.sv] (i6 (ckY Y))
noncomputable def ckC : Ctr := ⟨35, fun args k => match args with
  | [.agg [.lst 8 n f, .lst 3 m g]] => SV.lst 8 n f = (clOf n f).sv ∧ SV.lst 3 m g = (msOf m g).sv ∧ k (i6 (ckY ⟨clOf n f, msOf m g⟩))
  | _ => False⟩
end Go.Proofs.Ytfiaadlgfjokjaa

set_option maxRecDepth 100000
namespace Go.Proofs.Ytfiaadlgfjokjaa
open Go Go.Lg
theorem gdG_vc :gdG  =
((0:Nat)<(1:Nat) ∧
 Value.func (Fn.func (60:Nat)) #[] #[]=Value.func (Fn.func (60:Nat)) #[] #[] ∧
  Value.func (Fn.func (61:Nat)) #[] #[]=Value.func (Fn.func (61:Nat)) #[] #[] ∧
   Value.func (Fn.func (62:Nat)) #[] #[]=Value.func (Fn.func (62:Nat)) #[] #[] ∧
    Value.func (Fn.func (63:Nat)) #[] #[]=Value.func (Fn.func (63:Nat)) #[] #[]∧True):=by kernel_rfl
theorem g0G_vc (c:Co):g0G c =
((0:Nat)<(1:Nat)∧(0:Nat)<(1:Nat)∧c.1=c.1∧c.2=c.2∧True):=by kernel_rfl
theorem g1G_vc (c:Co):g1G c =
((0:Nat)<(1:Nat)∧(0:Nat)<(1:Nat)∧c.3=c.3∧c.4=c.4∧True):=by kernel_rfl
theorem g2G_vc (c:Co):g2G c =
((0:Nat)<(1:Nat)∧(0:Nat)<(1:Nat)∧c.5=c.5∧c.6=c.6∧True):=by kernel_rfl
theorem g3G_vc (c:Co):g3G c =
((0:Nat)<(1:Nat)∧(0:Nat)<(1:Nat)∧c.7=c.7∧c.8=c.8∧True):=by kernel_rfl
theorem vcG_vc (C:Cl):vcG C =
(((↑C.1:Int)<(1:Int)→(false=true↔okCl C)∧True)∧(¬(↑C.1:Int)<(1:Int)→((6:Int)<(↑C.1:Int)→(false=true↔okCl C)∧True)∧(¬(6:Int)<(↑C.1:Int)→(∃ (z:Nat),(z≤C.1∧∀ (i:Nat),i<z→okCo (C.f i))∧C.1=C.1∧(∀ (i:Nat),i<C.1→rE ((C.f i).sv.den)∧True∧True∧True∧True∧True∧True∧True∧True∧True)∧rE (↑C.1:Int)∧(0:Int)=(↑z:Int)∧True)∧∀ (z:Nat),(z≤C.1∧∀ (i:Nat),i<z→okCo (C.f i))→((↑z:Int)<(↑C.1:Int)→(0:Int)≤(↑z:Int)∧(↑z:Int)<(↑C.1:Int)∧(((z<C.1∧(0:Nat)≤(4:Nat)∧(∀ (i:Nat),i<z→okCo (C.f i))∧∀ (j:Nat),j<(0:Nat)→spJ (C.f (↑z:Int).toNat) j)∧z=(↑z:Int).toNat)∧rE (0:Nat)∧rE (0:Nat)∧C.1=C.1∧(∀ (i:Nat),i<C.1→rE ((C.f i).sv.den)∧True∧True∧True∧True∧True∧True∧True∧True∧True)∧rE (↑C.1:Int)∧rE (↑z :
Int)∧rE (Value.func (Fn.func (60:Nat)) #[] #[])∧rE (Value.func (Fn.func (61:Nat)) #[] #[])∧rE (Value.func (Fn.func (62:Nat)) #[] #[])∧rE (Value.func (Fn.func (63:Nat)) #[] #[])∧(0:Int)=(↑(0:Nat):Int)∧rE ((C.f (↑z:Int).toNat).1)∧rE ((C.f (↑z:Int).toNat).2)∧rE ((C.f (↑z:Int).toNat).3)∧rE ((C.f (↑z:Int).toNat).4)∧rE ((C.f (↑z:Int).toNat).5)∧rE ((C.f (↑z:Int).toNat).6)∧rE ((C.f (↑z:Int).toNat).7)∧rE ((C.f (↑z:Int).toNat).8)∧True)∧∀ (z_1:Nat × Nat),(z_1.1<C.1∧z_1.2≤(4:Nat)∧(∀ (i:Nat),i<z_1.1→okCo (C.f i))∧∀ (j:Nat),j<z_1.2→spJ (C.f z_1.fst) j)∧z_1.1=(↑z:Int).toNat→((↑z_1.2:Int)<(4:Int)→(0:Int)≤(↑z_1.2:Int)∧(↑z_1.2:Int)<(↑(4:Nat):Int)∧(↑z_1.2:Int).toNat*(1:Nat)<(4:Nat)∧(((True∧((↑z_1.2:Int).toNat*(1:Nat)=(0:Nat)→(0:Nat)<(1:Nat)∧(0 :
Nat)<(1:Nat)∧((C.f z_1.fst).1<(0:Int)→(false=true↔okCl C)∧True)∧(¬(C.f z_1.fst).1<(0:Int)→(0:Nat)<(1:Nat)∧(0:Nat)<(1:Nat)∧((C.f z_1.fst).2<(C.f z_1.fst).1→(false=true↔okCl C)∧True)∧(¬(C.f z_1.fst).2<(C.f z_1.fst).1→(0:Nat)<(1:Nat)∧((100000:Int)<(C.f z_1.fst).2→(false=true↔okCl C)∧True)∧(¬(100000:Int)<(C.f z_1.fst).2→rI ((↑z_1.2:Int)+(1:Int))∧(((↑z_1.1:Int).toNat<C.1∧((↑z_1.2:Int)+(1:Int)).toNat≤(4:Nat)∧(∀ (i:Nat),i<(↑z_1.1:Int).toNat→okCo (C.f i))∧∀ (j:Nat),j<((↑z_1.2:Int)+(1:Int)).toNat→spJ (C.f (↑z_1.fst:Int).toNat) j)∧(↑z_1.1:Int).toNat=(↑z:Int).toNat)∧(4:Nat) - ((↑z_1.2:Int)+(1:Int)).toNat<(4:Nat) - z_1.2∧rE (0:Nat)∧rE (0:Nat)∧C.1=C.1∧(∀ (i:Nat),i<C.1→rE ((C.f i).sv.den)∧True∧True∧True∧True∧True
∧ True∧True∧True∧True)∧rE (↑C.1:Int)∧(↑z_1.1:Int)=(↑(↑z_1.1:Int).toNat:Int)∧rE (Value.func (Fn.func (60:Nat)) #[] #[])∧rE (Value.func (Fn.func (61:Nat)) #[] #[])∧rE (Value.func (Fn.func (62:Nat)) #[] #[])∧rE (Value.func (Fn.func (63:Nat)) #[] #[])∧(↑z_1.2:Int)+(1:Int)=(↑((↑z_1.2:Int)+(1:Int)).toNat:Int)∧(C.f z_1.fst).1=(C.f (↑z_1.fst:Int).toNat).1∧(C.f z_1.fst).2=(C.f (↑z_1.fst:Int).toNat).2∧(C.f z_1.fst).3=(C.f (↑z_1.fst:Int).toNat).3∧(C.f z_1.fst).4=(C.f (↑z_1.fst:Int).toNat).4∧(C.f z_1.fst).5=(C.f (↑z_1.fst:Int).toNat).5∧(C.f z_1.fst).6=(C.f (↑z_1.fst:Int).toNat).6∧(C.f z_1.fst).7=(C.f (↑z_1.fst:Int).toNat).7∧(C.f z_1.fst).8=(C.f (↑z_1.fst:Int).toNat).8∧True)))))∧((↑z_1.2:Int).toNat*(1:Nat)=(1:Nat)→(0:Nat)<(1:Nat)∧(0:Nat)<(1:Nat)∧((C.f z_1.fst).3<(0
: Int)→(false=true↔okCl C)∧True)∧(¬(C.f z_1.fst).3<(0:Int)→(0:Nat)<(1:Nat)∧(0:Nat)<(1:Nat)∧((C.f z_1.fst).4<(C.f z_1.fst).3→(false=true↔okCl C)∧True)∧(¬(C.f z_1.fst).4<(C.f z_1.fst).3→(0:Nat)<(1:Nat)∧((100000:Int)<(C.f z_1.fst).4→(false=true↔okCl C)∧True)∧(¬(100000:Int)<(C.f z_1.fst).4→rI ((↑z_1.2:Int)+(1:Int))∧(((↑z_1.1:Int).toNat<C.1∧((↑z_1.2:Int)+(1:Int)).toNat≤(4:Nat)∧(∀ (i:Nat),i<(↑z_1.1:Int).toNat→okCo (C.f i))∧∀ (j:Nat),j<((↑z_1.2:Int)+(1:Int)).toNat→spJ (C.f (↑z_1.fst:Int).toNat) j)∧(↑z_1.1:Int).toNat=(↑z:Int).toNat)∧(4:Nat) - ((↑z_1.2:Int)+(1:Int)).toNat<(4:Nat) - z_1.2∧rE (0:Nat)∧rE (0:Nat)∧C.1=C.1∧(∀ (i:Nat),i<C.1→rE ((C.f i).sv.den)∧True∧True∧True∧True∧True∧True∧True∧True∧True)∧rE (↑C.1
: Int)∧(↑z_1.1:Int)=(↑(↑z_1.1:Int).toNat:Int)∧rE (Value.func (Fn.func (60:Nat)) #[] #[])∧rE (Value.func (Fn.func (61:Nat)) #[] #[])∧rE (Value.func (Fn.func (62:Nat)) #[] #[])∧rE (Value.func (Fn.func (63:Nat)) #[] #[])∧(↑z_1.2:Int)+(1:Int)=(↑((↑z_1.2:Int)+(1:Int)).toNat:Int)∧(C.f z_1.fst).1=(C.f (↑z_1.fst:Int).toNat).1∧(C.f z_1.fst).2=(C.f (↑z_1.fst:Int).toNat).2∧(C.f z_1.fst).3=(C.f (↑z_1.fst:Int).toNat).3∧(C.f z_1.fst).4=(C.f (↑z_1.fst:Int).toNat).4∧(C.f z_1.fst).5=(C.f (↑z_1.fst:Int).toNat).5∧(C.f z_1.fst).6=(C.f (↑z_1.fst:Int).toNat).6∧(C.f z_1.fst).7=(C.f (↑z_1.fst:Int).toNat).7∧(C.f z_1.fst).8=(C.f (↑z_1.fst:Int).toNat).8∧True)))))∧((↑z_1.2:Int).toNat*(1:Nat)=(2:Nat)→(0:Nat)<(1:Nat)∧(0:Nat)<(1:Nat)∧((C.f z_1.fst).5<(0:Int)→(false=true↔okCl C)∧True)
∧ (¬(C.f z_1.fst).5<(0:Int)→(0:Nat)<(1:Nat)∧(0:Nat)<(1:Nat)∧((C.f z_1.fst).6<(C.f z_1.fst).5→(false=true↔okCl C)∧True)∧(¬(C.f z_1.fst).6<(C.f z_1.fst).5→(0:Nat)<(1:Nat)∧((100000:Int)<(C.f z_1.fst).6→(false=true↔okCl C)∧True)∧(¬(100000:Int)<(C.f z_1.fst).6→rI ((↑z_1.2:Int)+(1:Int))∧(((↑z_1.1:Int).toNat<C.1∧((↑z_1.2:Int)+(1:Int)).toNat≤(4:Nat)∧(∀ (i:Nat),i<(↑z_1.1:Int).toNat→okCo (C.f i))∧∀ (j:Nat),j<((↑z_1.2:Int)+(1:Int)).toNat→spJ (C.f (↑z_1.fst:Int).toNat) j)∧(↑z_1.1:Int).toNat=(↑z:Int).toNat)∧(4:Nat) - ((↑z_1.2:Int)+(1:Int)).toNat<(4:Nat) - z_1.2∧rE (0:Nat)∧rE (0:Nat)∧C.1=C.1∧(∀ (i:Nat),i<C.1→rE ((C.f i).sv.den)∧True∧True∧True∧True∧True∧True∧True∧True∧True)∧rE (↑C.1:Int)∧(↑z_1.1:Int)=(↑(↑z_1.1 :
Int).toNat:Int)∧rE (Value.func (Fn.func (60:Nat)) #[] #[])∧rE (Value.func (Fn.func (61:Nat)) #[] #[])∧rE (Value.func (Fn.func (62:Nat)) #[] #[])∧rE (Value.func (Fn.func (63:Nat)) #[] #[])∧(↑z_1.2:Int)+(1:Int)=(↑((↑z_1.2:Int)+(1:Int)).toNat:Int)∧(C.f z_1.fst).1=(C.f (↑z_1.fst:Int).toNat).1∧(C.f z_1.fst).2=(C.f (↑z_1.fst:Int).toNat).2∧(C.f z_1.fst).3=(C.f (↑z_1.fst:Int).toNat).3∧(C.f z_1.fst).4=(C.f (↑z_1.fst:Int).toNat).4∧(C.f z_1.fst).5=(C.f (↑z_1.fst:Int).toNat).5∧(C.f z_1.fst).6=(C.f (↑z_1.fst:Int).toNat).6∧(C.f z_1.fst).7=(C.f (↑z_1.fst:Int).toNat).7∧(C.f z_1.fst).8=(C.f (↑z_1.fst:Int).toNat).8∧True)))))∧((↑z_1.2:Int).toNat*(1:Nat)=(3:Nat)→(0:Nat)<(1:Nat)∧(0:Nat)<(1:Nat)∧((C.f z_1.fst).7<(0:Int)→(false=true↔okCl C)∧True)∧(¬(C.f z_1.fst).7<(0:Int)→(0
: Nat)<(1:Nat)∧(0:Nat)<(1:Nat)∧((C.f z_1.fst).8<(C.f z_1.fst).7→(false=true↔okCl C)∧True)∧(¬(C.f z_1.fst).8<(C.f z_1.fst).7→(0:Nat)<(1:Nat)∧((100000:Int)<(C.f z_1.fst).8→(false=true↔okCl C)∧True)∧(¬(100000:Int)<(C.f z_1.fst).8→rI ((↑z_1.2:Int)+(1:Int))∧(((↑z_1.1:Int).toNat<C.1∧((↑z_1.2:Int)+(1:Int)).toNat≤(4:Nat)∧(∀ (i:Nat),i<(↑z_1.1:Int).toNat→okCo (C.f i))∧∀ (j:Nat),j<((↑z_1.2:Int)+(1:Int)).toNat→spJ (C.f (↑z_1.fst:Int).toNat) j)∧(↑z_1.1:Int).toNat=(↑z:Int).toNat)∧(4:Nat) - ((↑z_1.2:Int)+(1:Int)).toNat<(4:Nat) - z_1.2∧rE (0:Nat)∧rE (0:Nat)∧C.1=C.1∧(∀ (i:Nat),i<C.1→rE ((C.f i).sv.den)∧True∧True∧True∧True∧True∧True∧True∧True∧True)∧rE (↑C.1:Int)∧(↑z_1.1:Int)=(↑(↑z_1.1:Int).toNat:Int)∧rE (Value.func
(Fn.func (60:Nat)) #[] #[])∧rE (Value.func (Fn.func (61:Nat)) #[] #[])∧rE (Value.func (Fn.func (62:Nat)) #[] #[])∧rE (Value.func (Fn.func (63:Nat)) #[] #[])∧(↑z_1.2:Int)+(1:Int)=(↑((↑z_1.2:Int)+(1:Int)).toNat:Int)∧(C.f z_1.fst).1=(C.f (↑z_1.fst:Int).toNat).1∧(C.f z_1.fst).2=(C.f (↑z_1.fst:Int).toNat).2∧(C.f z_1.fst).3=(C.f (↑z_1.fst:Int).toNat).3∧(C.f z_1.fst).4=(C.f (↑z_1.fst:Int).toNat).4∧(C.f z_1.fst).5=(C.f (↑z_1.fst:Int).toNat).5∧(C.f z_1.fst).6=(C.f (↑z_1.fst:Int).toNat).6∧(C.f z_1.fst).7=(C.f (↑z_1.fst:Int).toNat).7∧(C.f z_1.fst).8=(C.f (↑z_1.fst:Int).toNat).8∧True)))))∧(¬(↑z_1.2:Int)<(4:Int)→rI ((↑z_1.1:Int)+(1:Int))∧∃ (z_2:Nat),(z_2≤C.1∧∀ (i:Nat),i<z_2→okCo (C.f i))∧C.1 - z_2<C.1 - z∧C.1=C.1∧(∀ (i:Nat),i<C.1→rE ((C.f i).sv.den)∧True∧True∧True
∧ True∧True∧True∧True∧True∧True)∧rE (↑C.1:Int)∧(↑z_1.1:Int)+(1:Int)=(↑z_2:Int)∧True))∧(¬(↑z:Int)<(↑C.1:Int)→(rE true↔okCl C)∧True)))):=by kernel_rfl
theorem vmG_vc (M:Ytfiaadlgfjokjaa.Ms) (c:Int):vmG M c =
(((32:Int)<(↑M.1:Int)→(false=true↔okMs c M)∧True)∧(¬(32:Int)<(↑M.1:Int)→(∃ (z:Nat),(z≤M.1∧M.1≤(32:Nat)∧∀ (i:Nat),i<z→okMv c M i)∧M.1=M.1∧(∀ (i:Nat),i<M.1→rE ((M.f i).sv.den)∧True∧True∧True∧True)∧c=c∧(0:Int)=pv M z∧(0:Int)=(↑z:Int)∧M.1=M.1∧(∀ (i:Nat),i<M.1→rE ((M.f i).sv.den)∧True∧True∧True∧True)∧rE (↑M.1:Int)∧(0:Int)=(↑z:Int)∧True)∧∀ (z:Nat),(z≤M.1∧M.1≤(32:Nat)∧∀ (i:Nat),i<z→okMv c M i)→((↑z:Int)<(↑M.1:Int)→(0:Int)≤(↑z:Int)∧(↑z:Int)<(↑M.1:Int)∧(0:Nat)<(1:Nat)∧((M.f (↑z:Int).toNat).1<pv M z→((↑z:Int)=(↑M.1:Int)↔okMs c M)∧True)∧(¬(M.f (↑z:Int).toNat).1<pv M z→(0:Nat)<(1:Nat)∧((1048576:Int)<(M.f (↑z:Int).toNat).1→((↑z:Int)=(↑M.1:Int)↔okMs c M)∧True)∧(¬(1048576:Int) <
(M.f (↑z:Int).toNat).1→(0:Nat)<(1:Nat)∧((M.f (↑z:Int).toNat).2<(-1:Int)→((↑z:Int)=(↑M.1:Int)↔okMs c M)∧True)∧(¬(M.f (↑z:Int).toNat).2<(-1:Int)→(0:Nat)<(1:Nat)∧(c≤(M.f (↑z:Int).toNat).2→((↑z:Int)=(↑M.1:Int)↔okMs c M)∧True)∧(¬c≤(M.f (↑z:Int).toNat).2→(0:Nat)<(1:Nat)∧((M.f (↑z:Int).toNat).3<(1:Int)→((↑z:Int)=(↑M.1:Int)↔okMs c M)∧True)∧(¬(M.f (↑z:Int).toNat).3<(1:Int)→(0:Nat)<(1:Nat)∧((1048576:Int)<(M.f (↑z:Int).toNat).3→((↑z:Int)=(↑M.1:Int)↔okMs c M)∧True)∧(¬(1048576:Int)<(M.f (↑z:Int).toNat).3→(0:Nat)<(1:Nat)∧rI ((↑z:Int)+(1:Int))∧rI ((↑z:Int)+(1:Int))∧∃ (z_1:Nat),(z_1≤M.1∧M.1≤(32:Nat)∧∀ (i:Nat),i<z_1→okMv c M i)∧M.1 - z_1<M.1 - z∧M.1=M.1∧(∀ (i:Nat),i<M.1→rE ((M.f i).sv.den)∧True ∧
True∧True∧True)∧c=c∧(M.f (↑z:Int).toNat).1=pv M z_1∧(↑z:Int)+(1:Int)=(↑z_1:Int)∧M.1=M.1∧(∀ (i:Nat),i<M.1→rE ((M.f i).sv.den)∧True∧True∧True∧True)∧rE (↑M.1:Int)∧(↑z:Int)+(1:Int)=(↑z_1:Int)∧True)))))))∧(¬(↑z:Int)<(↑M.1:Int)→((↑z:Int)=(↑M.1:Int)↔okMs c M)∧True))):=by kernel_rfl
theorem shG_vc (M:Ytfiaadlgfjokjaa.Ms):shG M =
((∃ (z:Nat),(z≤M.1∧okSh M z)∧(0:Int)=lf M z∧M.1=M.1∧(∀ (i:Nat),i<M.1→rE ((M.f i).sv.den)∧True∧True∧True∧True)∧rE (↑M.1:Int)∧(0:Int)=(↑z:Int)∧True)∧∀ (z:Nat),z≤M.1∧okSh M z→((↑z:Int)<(↑M.1:Int)→(0:Int)≤(↑z:Int)∧(↑z:Int)<(↑M.1:Int)∧(0:Nat)<(1:Nat)∧(¬(M.f (↑z:Int).toNat).2=(-1:Int)→(0:Nat)<(1:Nat)∧rI (lf M z+(M.f (↑z:Int).toNat).3)∧rI ((↑z:Int)+(1:Int))∧∃ (z_1:Nat),(z_1≤M.1∧okSh M z_1)∧M.1 - z_1<M.1 - z∧lf M z+(M.f (↑z:Int).toNat).3=lf M z_1∧M.1=M.1∧(∀ (i:Nat),i<M.1→rE ((M.f i).sv.den)∧True∧True∧True∧True)∧rE (↑M.1:Int)∧(↑z:Int)+(1:Int)=(↑z_1:Int)∧True)∧(¬¬(M.f (↑z:Int).toNat).2=(-1:Int)→(0:Nat)<(1:Nat)∧rI (lf M z - (M.f (↑z:Int).toNat).3)∧(lf M z - (M.f (↑z:Int).toNat).3<(0:Int)→(rE
true↔¬okSh M M.n)∧True)∧(¬lf M z - (M.f (↑z:Int).toNat).3<(0:Int)→rI ((↑z:Int)+(1:Int))∧∃ (z_1:Nat),(z_1≤M.1∧okSh M z_1)∧M.1 - z_1<M.1 - z∧lf M z - (M.f (↑z:Int).toNat).3=lf M z_1∧M.1=M.1∧(∀ (i:Nat),i<M.1→rE ((M.f i).sv.den)∧True∧True∧True∧True)∧rE (↑M.1:Int)∧(↑z:Int)+(1:Int)=(↑z_1:Int)∧True)))∧(¬(↑z:Int)<(↑M.1:Int)→(false=true↔¬okSh M M.n)∧True)):=by kernel_rfl
theorem ckG_vc (Y:Yd):ckG Y =
((0:Nat)<(1:Nat) ∧
 (∀ (i:Nat),i<Y.c.1→True∧True∧True∧True∧True∧True∧True∧True∧True) ∧
  (SV.lst (8:Nat) Y.c.n fun i=>(Y.c.f i).sv)=(clOf Y.c.n fun i=>(Y.c.f i).sv).sv ∧
   (¬okCl (clOf Y.c.n fun i=>(Y.c.f i).sv)→(1:Int)=ckY Y∧True) ∧
    (¬¬okCl (clOf Y.c.n fun i=>(Y.c.f i).sv) →
     (0:Nat)<(1:Nat) ∧
      (0:Nat)<(1:Nat) ∧
       (∀ (i:Nat),i<Y.m.1→True∧True∧True∧True) ∧
        (SV.lst (3:Nat) Y.m.n fun i=>(Y.m.f i).sv)=(msOf Y.m.n fun i=>(Y.m.f i).sv).sv ∧
         (¬okMs (↑Y.c.n:Int) (msOf Y.m.n fun i=>(Y.m.f i).sv)→(1:Int)=ckY Y∧True) ∧
          (¬¬okMs (↑Y.c.n:Int) (msOf Y.m.n fun i=>(Y.m.f i).sv) →
           (0:Nat)<(1:Nat) ∧
            (∀ (i:Nat),i<Y.m.1→True∧True∧True∧True) ∧
             (SV.lst (3:Nat) Y.m.n fun i=>(Y.m.f i).sv)=(msOf Y.m.n fun i=>(Y.m.f i).sv).sv ∧
              (∃ c,okMs c (msOf Y.m.n fun i=>(Y.m.f i).sv)) ∧
               (¬okSh (msOf Y.m.n fun i=>(Y.m.f i).sv) Y.m.n→(10:Int)=ckY Y∧True) ∧
                (¬¬okSh (msOf Y.m.n fun i=>(Y.m.f i).sv) Y.m.n→(0:Int)=ckY Y∧True)))):=by kernel_rfl
end Go.Proofs.Ytfiaadlgfjokjaa

set_option maxRecDepth 100000
namespace Go.Proofs.Ytfiaadlgfjokjaa
open Go Go.Lg
attribute [local irreducible] funS bodyH
theorem mixed:Try.prog.follows .mixedOrders=true:=by kernel_rfl
theorem nilS_x {γ:GS→noGhost.S}:SoundXH Try.prog noGhost γ noX:=noX_sound
theorem nilS_ic:SoundIH Try.prog (ictrs []):=ictrs_sound (by intro x hx; simp at hx)
theorem nilS_cs:SoundS Try.prog (ctrs []):=ctrs_sound (by intro x hx; simp at hx)
theorem plainD {cs:CSpec} {cx:CX} {ic:IC} {sp isp f args res} (hcs:SoundS Try.prog cs) (hcx:SoundXH Try.prog noGhost γ0 cx) (hic:SoundIH Try.prog ic) (h:funH Try.prog cs cx ic sp isp f args res) (hp:plainS res):Does Try.prog f true (SV.denL args) res.den :=
 Does.plain (funH_does hcs hcx hic mixed h) hp
theorem newD {cs:CSpec} {cx:CX} {ic:IC} {sp isp f args res} (hcs:SoundS Try.prog cs) (hcx:SoundXH Try.prog noGhost γ0 cx) (hic:SoundIH Try.prog ic) (h:funN Try.prog cs cx ic sp isp f args res) (hp:flatS res):Does Try.prog f true (SV.denL args) res.den :=
 funN_does hcs hcx hic mixed h hp
theorem one_cs {x:Ctr} (h:x.Ok Try.prog):SoundS Try.prog (ctrs [x]):=ctrs_sound (by intro y hy; simp at hy; subst hy; exact h)
theorem three_cs {x y z:Ctr} (h:x.Ok Try.prog) (h2:y.Ok Try.prog) (h3:z.Ok Try.prog):SoundS Try.prog (ctrs [x,y,z]):=ctrs_sound (by intro u hu; simp at hu; rcases hu with rfl | rfl | rfl; exact h; exact h2; exact h3)
theorem lst_den {s n:Nat} {f g:Nat→SV} (h:∀ i,i<n→f i=g i):(SV.lst s n f).den=(SV.lst s n g).den:=by
 simp only [SV.den]
 congr 1
 apply List.map_congr_left
 intro i hi
 rw [h i (by simpa using hi)]
theorem ms_fold (M:Ms):(msOf M.n fun i=>(M.f i).sv)=M:=rfl
theorem cl_fold (C:Cl):(clOf C.n fun i=>(C.f i).sv)=C:=rfl
theorem mv_fold (M:Ms):(SV.lst 3 M.n fun i=>(M.f i).sv)=M.sv:=rfl
theorem cv_fold (C:Cl):(SV.lst 8 C.n fun i=>(C.f i).sv)=C.sv:=rfl
theorem gd_true:gdG:=by
 rw [gdG_vc]
 simp
theorem g0_true (c:Co):g0G c:=by rw [g0G_vc]; simp
theorem g1_true (c:Co):g1G c:=by rw [g1G_vc]; simp
theorem g2_true (c:Co):g2G c:=by rw [g2G_vc]; simp
theorem g3_true (c:Co):g3G c:=by rw [g3G_vc]; simp
theorem gd_ok:gdC.Ok Try.prog:=by
 refine ⟨by kernel_rfl,fun x k hk=>?_⟩
 simp only [gdC] at hk
 split at hk
 ·exact ⟨_,plainD nilS_cs nilS_x nilS_ic gd_true (by simp [plainS,plainS.plainL,fv]),hk⟩
 ·exact hk.elim
theorem g0_ok:g0C.Ok Try.prog:=by
 refine ⟨by kernel_rfl,fun x k hk=>?_⟩
 simp only [g0C] at hk
 split at hk
 ·rename_i a b c d e f g h
  exact ⟨_,plainD nilS_cs nilS_x nilS_ic (g0_true ⟨a,b,c,d,e,f,g,h⟩) (by simp [plainS,plainS.plainL]),hk⟩
 ·exact hk.elim
theorem g1_ok:g1C.Ok Try.prog:=by
 refine ⟨by kernel_rfl,fun x k hk=>?_⟩
 simp only [g1C] at hk
 split at hk
 ·rename_i a b c d e f g h
  exact ⟨_,plainD nilS_cs nilS_x nilS_ic (g1_true ⟨a,b,c,d,e,f,g,h⟩) (by simp [plainS,plainS.plainL]),hk⟩
 ·exact hk.elim
theorem g2_ok:g2C.Ok Try.prog:=by
 refine ⟨by kernel_rfl,fun x k hk=>?_⟩
 simp only [g2C] at hk
 split at hk
 ·rename_i a b c d e f g h
  exact ⟨_,plainD nilS_cs nilS_x nilS_ic (g2_true ⟨a,b,c,d,e,f,g,h⟩) (by simp [plainS,plainS.plainL]),hk⟩
 ·exact hk.elim
theorem g3_ok:g3C.Ok Try.prog:=by
 refine ⟨by kernel_rfl,fun x k hk=>?_⟩
 simp only [g3C] at hk
 split at hk
 ·rename_i a b c d e f g h
  exact ⟨_,plainD nilS_cs nilS_x nilS_ic (g3_true ⟨a,b,c,d,e,f,g,h⟩) (by simp [plainS,plainS.plainL]),hk⟩
 ·exact hk.elim
theorem csV_sound:SoundS Try.prog csV:=ctrs_sound (by
 intro x hx
 simp at hx
 rcases hx with rfl | rfl | rfl | rfl | rfl
 ·exact gd_ok
 ·exact g0_ok
 ·exact g1_ok
 ·exact g2_ok
 ·exact g3_ok)
theorem co_of {c:Co} (h:∀ j,j<4→spJ c j):okCo c:=⟨h 0 (by omega),h 1 (by omega),h 2 (by omega),h 3 (by omega)⟩
theorem co_at {c:Co} (h:okCo c) (j:Nat):spJ c j:=by
 match j with
 | 0=>exact h.g
 | 1=>exact h.t
 | 2=>exact h.s
 | _+3=>exact h.k
theorem vc_in {C:Cl} {z j:Nat} (a b:Int) (hz:z<C.n) (hj:j<4) (hc:∀ i,i<z→okCo (C.f i)) (hs:∀ i,i<j→spJ (C.f z) i) (e:spJ (C.f z) j=okSp a b) :
  (a<0→(False↔okCl C))∧(¬ a<0→(b<a→(False↔okCl C))∧(¬ b<a→(100000<b→(False↔okCl C))∧(¬ 100000<b →
   (-9223372036854775808≤(j:Int)+1∧(j:Int)+1≤9223372036854775807)∧((z<C.n∧((j:Int)+1).toNat≤4∧(∀ i,i<z→okCo (C.f i))∧∀ i,i<((j:Int)+1).toNat→spJ (C.f z) i)∧z=z)∧4 - ((j:Int)+1).toNat<4 - j∧(j:Int)+1=(((j:Int)+1).toNat:Int)))):=by
 have no:¬ okSp a b→(False↔okCl C):=fun h=>⟨False.elim,fun h2=>h (e ▸ co_at (h2.h z hz) j)⟩
 have e1:((j:Int)+1).toNat=j+1:=by omega
 rw [e1]
 refine ⟨fun h=>no fun h2=>by have:=h2.a; omega,fun h1=>⟨fun h=>no fun h2=>by have:=h2.b; omega,fun h2=>⟨fun h=>no fun h2=>by have:=h2.c; omega,fun h3=>⟨by omega,⟨⟨hz,by omega,hc,fun i hi=>?_⟩,rfl⟩,by omega,by omega⟩⟩⟩⟩
 by_cases k:i<j
 ·exact hs i k
 ·have:i=j:=by omega
  subst this; rw [e]; exact ⟨by omega,by omega,by omega⟩
theorem vc_true (C:Cl):vcG C:=by
 rw [vcG_vc]
 simp only [rI,rE,tA,tB,tC,tD,tt3,tt4,tt5,tt13,tt14,and_true,true_and,Nat.zero_lt_one,and_self,implies_true,Int.toNat_natCast,Nat.zero_add,Nat.add_zero,Nat.one_mul,Nat.mul_one,Classical.not_not,iff_self,Bool.false_eq_true,imp_false,and_imp,true_implies,forall_const]
 refine ⟨fun h=>⟨False.elim,fun h2=>by have:=h2.a; omega⟩,fun h1=>⟨fun h=>⟨False.elim,fun h2=>by have:=h2.b; omega⟩,fun h2=>⟨⟨0,⟨by omega,fun i hi=>by omega⟩,rfl⟩,fun z hz hc=>⟨fun hl=>⟨by omega,hl,⟨⟨by omega,by omega,hc,fun i hi=>by omega⟩,rfl⟩,?_⟩,fun hl=>⟨fun _=>⟨by omega,by omega,fun i hi=>hc i (by omega)⟩,fun _=>trivial⟩⟩⟩⟩⟩
 rintro ⟨z',j⟩ q1 q2 q3 q4 rfl
 dsimp only at *
 refine ⟨fun hj=>⟨by omega,by omega,by omega,⟨⟨⟨fun e=>?_,fun e=>?_⟩,fun e=>?_⟩,fun e=>?_⟩⟩,fun hj=>⟨by omega,z'+1,⟨by omega,fun i hi=>?_⟩,by omega,by omega⟩⟩
 ·have:=vc_in (C.f z').g0 (C.f z').g1 q1 (by omega) q3 q4 (by rw [e]; rfl); exact this
 ·have:=vc_in (C.f z').t0 (C.f z').t1 q1 (by omega) q3 q4 (by rw [e]; rfl); exact this
 ·have:=vc_in (C.f z').s0 (C.f z').s1 q1 (by omega) q3 q4 (by rw [e]; rfl); exact this
 ·have:=vc_in (C.f z').k0 (C.f z').k1 q1 (by omega) q3 q4 (by rw [e]; rfl); exact this
 ·by_cases k:i<z'
  ·exact q3 i k
  ·have:i=z':=by omega
   subst this; exact co_of fun i hi=>q4 i (by omega)
theorem vc_ok:vcC.Ok Try.prog:=by
 refine ⟨by kernel_rfl,fun x k hk=>?_⟩
 simp only [vcC] at hk
 split at hk
 ·rename_i n f
  obtain ⟨hf,hk⟩:=hk
  have hh:=vc_true (clOf n f)
  unfold vcG at hh
  rw [← hf] at hh
  exact ⟨_,plainD csV_sound nilS_x nilS_ic hh trivial,hk⟩
 ·exact hk.elim
theorem vm_true (M:Ms) (c:Int):vmG M c:=by
 rw [vmG_vc]
 simp only [rI,rE,tA,tB,tC,tD,tt3,tt4,tt5,tt13,tt14,and_true,true_and,Nat.zero_lt_one,and_self,implies_true,Int.toNat_natCast,Nat.zero_add,Nat.add_zero,Nat.one_mul,Nat.mul_one,Classical.not_not,iff_self,Bool.false_eq_true,imp_false,and_imp,true_implies,forall_const]
 refine ⟨fun h=>⟨False.elim,fun h2=>by have:=h2.n; omega⟩,fun h1=>⟨⟨0,⟨by omega,by omega,fun i hi=>by omega⟩,rfl,rfl⟩,fun z hz hn hm=>⟨fun hl=>?_,fun hl=>⟨fun _=>⟨hn,fun i hi=>hm i (by omega)⟩,fun _=>by omega⟩⟩⟩⟩
 have no:¬ okMv c M z→((z:Int)=(M.n:Int)↔okMs c M):=fun h=>⟨fun e=>by omega,fun h2=>absurd (h2.h z (by omega)) h⟩
 refine ⟨by omega,hl,fun h=>no fun h2=>by have:=h2.h0; omega,fun k1=>⟨fun h=>no fun h2=>by have:=h2.h1; omega,fun k2=>⟨fun h=>no fun h2=>by have:=h2.c0; omega,fun k3=>⟨fun h=>no fun h2=>by have:=h2.c1; omega,fun k4=>⟨fun h=>no fun h2=>by have:=h2.t0; omega,fun k5=>⟨fun h=>no fun h2=>by have:=h2.t1; omega,fun k6=>⟨by omega,by omega,z+1,⟨by omega,hn,fun i hi=>?_⟩,by omega,rfl,by omega⟩⟩⟩⟩⟩⟩⟩
 by_cases k:i<z
 ·exact hm i k
 ·have:i=z:=by omega
  subst this; exact ⟨by omega,by omega,by omega,by omega,by omega,by omega⟩
theorem vm_ok:vmC.Ok Try.prog:=by
 refine ⟨by kernel_rfl,fun x k hk=>?_⟩
 simp only [vmC] at hk
 split at hk
 ·rename_i n f c
  obtain ⟨hf,hk⟩:=hk
  have hh:=vm_true (msOf n f) c
  unfold vmG at hh
  rw [← hf] at hh
  exact ⟨_,plainD nilS_cs nilS_x nilS_ic hh trivial,hk⟩
 ·exact hk.elim
theorem sum_bd {g:Nat→Int} {B:Int}:∀ {m:Nat},(∀ j,j<m→-B≤g j∧g j≤B)→-(m*B)≤sumJ g m∧sumJ g m≤m*B
 | 0,_=>by simp [sumJ]
 | m+1,h=>by
  have h1:=sum_bd (g:=g) (B:=B) (m:=m) fun j hj=>h j (by omega)
  have h2:=h m (by omega)
  have:((m+1:Nat):Int)*B=m*B+B:=by push_cast; rw [Int.add_mul,Int.one_mul]
  rw [this]
  show -(m*B+B)≤sumJ g m+g m∧sumJ g m+g m≤_
  omega
theorem lf_bd {M:Ms} {c:Int} (h:okMs c M) {k:Nat} (hk:k≤M.n):-33554432≤lf M k∧lf M k≤33554432:=by
 have:=sum_bd (g:=dl M) (B:=1048576) (m:=k) fun j hj=>by
  have m:=h.h j (by omega)
  have t0:=m.t0
  have t1:=m.t1
  unfold dl
  split <;> omega
 have hn:=h.n
 unfold lf
 omega
theorem lf_s (M:Ms) (k:Nat):lf M (k+1)=lf M k+dl M k:=rfl
theorem sh_true {M:Ms} {c:Int} (hM:okMs c M):shG M:=by
 rw [shG_vc]
 simp only [rI,rE,tA,tB,tC,tD,tt3,tt4,tt5,tt13,tt14,and_true,true_and,Nat.zero_lt_one,and_self,implies_true,Int.toNat_natCast,Nat.zero_add,Nat.add_zero,Nat.one_mul,Nat.mul_one,Classical.not_not,iff_self,Bool.false_eq_true,imp_false,and_imp,true_implies,forall_const]
 have hn:=hM.n
 refine ⟨⟨0,⟨by omega,fun i hi=>by omega⟩,rfl,rfl⟩,fun z hz hs=>⟨fun hl=>?_,fun hl=>⟨False.elim,fun h=>h fun i hi=>hs i (by omega)⟩⟩⟩
 have b:=lf_bd hM (k:=z) hz
 have m:=hM.h z (by omega)
 have t0:=m.t0
 have t1:=m.t1
 refine ⟨by omega,hl,fun hd=>?_,fun hd=>?_⟩
 ·have e:lf M (z+1)=lf M z+(M.f z).tn:=by rw [lf_s]; unfold dl; rw [if_neg hd]
  refine ⟨by omega,by omega,z+1,⟨by omega,fun i hi hc=>?_⟩,by omega,e.symm,by omega⟩
  by_cases k:i<z
  ·exact hs i k hc
  ·have:i=z:=by omega
   subst this; exact absurd hc hd
 ·have e:lf M (z+1)=lf M z - (M.f z).tn:=by rw [lf_s]; unfold dl; rw [if_pos hd]; omega
  refine ⟨by omega,fun hneg=>⟨fun _ h=>?_,fun _=>trivial⟩,fun hpos=>⟨by omega,z+1,⟨by omega,fun i hi hc=>?_⟩,by omega,e.symm,by omega⟩⟩
  ·have:=h z (by omega) hd
   omega
  ·by_cases k:i<z
   ·exact hs i k hc
   ·have:i=z:=by omega
    subst this; rw [e]; omega
theorem sh_ok:shC.Ok Try.prog:=by
 refine ⟨by kernel_rfl,fun x k hk=>?_⟩
 simp only [shC] at hk
 split at hk
 ·rename_i n f
  obtain ⟨hf,⟨c,hM⟩,hk⟩:=hk
  have hh:=sh_true hM
  unfold shG at hh
  rw [← hf] at hh
  exact ⟨_,plainD nilS_cs nilS_x nilS_ic hh trivial,hk⟩
 ·exact hk.elim
theorem ck_true (Y:Yd):ckG Y:=by
 rw [ckG_vc]
 simp only [rI,rE,tA,tB,tC,tD,tt3,tt4,tt5,tt13,tt14,and_true,true_and,Nat.zero_lt_one,and_self,implies_true,Int.toNat_natCast,Nat.zero_add,Nat.add_zero,Nat.one_mul,Nat.mul_one,Classical.not_not,iff_self,Bool.false_eq_true,imp_false,and_imp,true_implies,forall_const,ms_fold,cl_fold,mv_fold,cv_fold]
 refine ⟨fun h=>?_,fun h1=>⟨fun h=>?_,fun h2=>⟨⟨_,h2⟩,fun h=>?_,fun h=>?_⟩⟩⟩
 ·rw [ckY,if_neg fun h2=>h h2.1]
 ·rw [ckY,if_neg fun h2=>h h2.2]
 ·rw [ckY,if_pos ⟨h1,h2⟩,if_neg h]
 ·rw [ckY,if_pos ⟨h1,h2⟩,if_pos h]
theorem ck_ok:ckC.Ok Try.prog:=by
 refine ⟨by kernel_rfl,fun x k hk=>?_⟩
 simp only [ckC] at hk
 split at hk
 ·rename_i n f m g
  obtain ⟨h1,h2,hk⟩:=hk
  have hh:=ck_true ⟨clOf n f,msOf m g⟩
  unfold ckG Yd.sv at hh
  rw [← h1,← h2] at hh
  exact ⟨_,plainD (three_cs vc_ok vm_ok sh_ok) nilS_x nilS_ic hh trivial,hk⟩
 ·exact hk.elim
end Go.Proofs.Ytfiaadlgfjokjaa
