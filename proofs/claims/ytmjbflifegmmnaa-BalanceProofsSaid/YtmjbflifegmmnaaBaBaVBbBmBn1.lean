import Derived.Test.YtmjbflifegmmnaaProg
import Derived.Test.YtmjbflifegmmnaaPfPgPhPiPu
set_option linter.unusedVariables false
set_option linter.unusedSimpArgs false
set_option maxRecDepth 100000
namespace Go.Proofs.Ytmjbflifegmmnaa
open Go Go.Lg
attribute [local irreducible] bodyH
def rI (x : Int) : Prop := -9223372036854775808 ≤ x ∧ x ≤ 9223372036854775807
def rE {α : Type} (a : α) : Prop := a = a
def tt3 : Prop := True ∧ True ∧ True
def tt4 : Prop := True ∧ True ∧ True ∧ True
def tt5 : Prop := True ∧ True ∧ True ∧ True ∧ True
def tt13 : Prop := True ∧ True ∧ True ∧ True ∧ True ∧ True ∧ True ∧ True ∧ True ∧ True ∧ True ∧ True ∧ True
def tt14 : Prop := True ∧ tt13
abbrev gTruth : Nat := 11
abbrev gTight : Nat := 13
abbrev gWhy : Nat := 17
abbrev gWrong : Nat := 19
abbrev gcheck : Nat := 28
abbrev gleast : Nat := 29
abbrev gtight : Nat := 30
abbrev gfixed : Nat := 31
abbrev ggreat : Nat := 33
abbrev gvalid : Nat := 34
abbrev gproof : Nat := 35
abbrev gplaces : Nat := 36
abbrev gcontra : Nat := 42
abbrev glo : Nat := 44
abbrev ghi : Nat := 45
abbrev gmax : Nat := 46
abbrev gsets : Nat := 47
abbrev gtakes : Nat := 48
abbrev gbound : Nat := 49
abbrev gmin : Nat := 50
abbrev gisPl : Nat := 51
abbrev gvGas : Nat := 52
abbrev ghas : Nat := 53
abbrev gcross : Nat := 56
abbrev gsetsI : Nat := 57
abbrev ggives : Nat := 58
structure Fl where
  n : Nat
  fr : Nat → Int
  to : Nat → Int
  lo : Nat → Int
  hi : Nat → Int
def Fl.el (f : Fl) (i : Nat) : SV := .agg [i6 (f.fr i), i6 (f.to i), i6 (f.lo i), i6 (f.hi i)]
def Fl.sv (f : Fl) : SV := .lst 4 f.n f.el
structure Pl where
  k : Int
  f : Fl
def Pl.sv (p : Pl) : SV := .agg [i6 p.k, p.f.sv]
def cel (v : SV) (j : Nat) : Int := prI (nth' (cells' v) j)
def fOf (v : SV) : Fl := ⟨lenV v, fun i => cel (eltV v i) 0, fun i => cel (eltV v i) 1, fun i => cel (eltV v i) 2, fun i => cel (eltV v i) 3⟩
def pOf (v : SV) : Pl := ⟨cel v 0, fOf (nth' (cells' v) 1)⟩
theorem p_fold (p : Pl) : pOf p.sv = p := rfl
def plC (g : FuncId) (C : Pl → List SV → (SV → Prop) → Prop) : Ctr := ⟨g, fun args k => match args with
  | x :: r => x = (pOf x).sv ∧ C (pOf x) r k
  | [] => False⟩
def dB (b : Bool) : SV := .dec (b = true) (instDecidableEqBool b true)
def hb (s : Nat) (x : Int) : Bool := s.testBit x.toNat
def tkB (f : Fl) (s i : Nat) : Bool := hb s (f.to i) && !hb s (f.fr i)
def gvB (f : Fl) (s i : Nat) : Bool := hb s (f.fr i) && !hb s (f.to i)
def sm (p : Nat → Bool) (f : Nat → Int) : Nat → Int
  | 0 => 0
  | k + 1 => sm p f k + bif p k then f k else 0
noncomputable def hasG (s x : Int) : Prop := funH Try.prog (ctrs []) noX (ictrs []) noL noL ghas [i6 s, i6 x] (dB (hb s.toNat x))
def hasC : Ctr := ⟨ghas, fun args k => match args with
  | [.int .i64 s, .int .i64 x] => ((0 ≤ s ∧ s ≤ 1000) ∧ 0 ≤ x ∧ x < 64) ∧ k (dB (hb s.toNat x))
  | _ => False⟩
def flV (a b c d : Int) : SV := .agg [i6 a, i6 b, i6 c, i6 d]
noncomputable def takG (s a b c d : Int) : Prop := funH Try.prog (ctrs [hasC]) noX (ictrs []) noL noL gtakes [i6 s, flV a b c d] (dB (hb s.toNat b && !hb s.toNat a))
noncomputable def givG (s a b c d : Int) : Prop := funH Try.prog (ctrs [hasC]) noX (ictrs []) noL noL ggives [i6 s, flV a b c d] (dB (hb s.toNat a && !hb s.toNat b))
def takC : Ctr := ⟨gtakes, fun args k => match args with
  | [.int .i64 s, .agg [.int .i64 a, .int .i64 b, .int .i64 c, .int .i64 d]] => ((0 ≤ s ∧ s ≤ 1000) ∧ (0 ≤ a ∧ a < 64) ∧ (0 ≤ b ∧ b < 64)) ∧ k (dB (hb s.toNat b && !hb s.toNat a))
  | _ => False⟩
def givC : Ctr := ⟨ggives, fun args k => match args with
  | [.int .i64 s, .agg [.int .i64 a, .int .i64 b, .int .i64 c, .int .i64 d]] => ((0 ≤ s ∧ s ≤ 1000) ∧ (0 ≤ a ∧ a < 64) ∧ (0 ≤ b ∧ b < 64)) ∧ k (dB (hb s.toNat a && !hb s.toNat b))
  | _ => False⟩
def cr0 (f : Fl) (s : Nat) (g : Nat → Int) (w k : Nat) : Int := if w = 0 then sm (tkB f s) g k else sm (tkB f s) g f.n
def cr1 (f : Fl) (s : Nat) (g : Nat → Int) (w k : Nat) : Int := if w = 0 then 0 else if w = 1 then sm (gvB f s) g k else sm (gvB f s) g f.n
def crR (f : Fl) (s w k : Nat) : SV := .agg [i6 (cr0 f s f.lo w k), i6 (cr0 f s f.hi w k), i6 (cr1 f s f.lo w k), i6 (cr1 f s f.hi w k)]
def IL (f : Fl) (s : Nat) : Int := sm (tkB f s) f.lo f.n
def IH (f : Fl) (s : Nat) : Int := sm (tkB f s) f.hi f.n
def OL (f : Fl) (s : Nat) : Int := sm (gvB f s) f.lo f.n
def OH (f : Fl) (s : Nat) : Int := sm (gvB f s) f.hi f.n
def crV (f : Fl) (s : Nat) : SV := .agg [i6 (IL f s), i6 (IH f s), i6 (OL f s), i6 (OH f s)]
def z4 : SV := .agg [i6 0, i6 0, i6 0, i6 0]
theorem rdB {n i g0 : Nat} (t : FS) (X : XS) (k : Bool × Nat → Prop) (h : (match sget n t i with
    | .clo (.func g) _ _ => (match Nat.beq g g0 with
      | true => ∃ z, k (false, z)
      | false => ∃ z, k (true, z))
    | _ => False)) : ∃ s, k s := by
  split at h
  · split at h
    · obtain ⟨z, h⟩ := h; exact ⟨_, h⟩
    · obtain ⟨z, h⟩ := h; exact ⟨_, h⟩
  · exact h.elim
def cloS (s : Nat) : SV := .agg [.clo (.func gtakes) [i6 s] [], .clo (.func ggives) [i6 s] []]
noncomputable def crF (f : Fl) (s w k : Nat) (c : SV) : FS := mkF 51 [(0, i6 s), (1, f.sv), (4, .ptr 0 0 0), (5, .ptr 1 0 0), (6, i6 w), (7, c), (14, cloS s), (15, i6 w), (19, f.sv), (20, i6 f.n), (21, i6 k)]
noncomputable def crS (f : Fl) (s : Nat) : HSpec :=
  { toLSpec := { σ := Bool × Nat
                 inv := fun z => z.2 ≤ f.n
                 μ := fun z => f.n - z.2
                 nr := 2
                 ms := fun _ _ => []
                 t := fun z => match z.1 with
                   | false => crF f s 0 z.2 (.clo (.func gtakes) [i6 s] [])
                   | true => crF f s 1 z.2 (.clo (.func ggives) [i6 s] [])
                 X := fun z => match z.1 with
                   | false => mkX [vr 4 z4, vr 4 (crR f s 0 z.2)]
                   | true => mkX [vr 4 z4, vr 4 (crR f s 1 z.2)]
                 rd := fun t _ k => match sget 51 t 7 with
                   | .clo (.func g) _ _ => (match Nat.beq g gtakes with
                     | true => ∃ z, k (false, z)
                     | false => ∃ z, k (true, z))
                   | _ => False
                 rdOK := rdB }
    par := some ⟨fun t _ k => match sget 51 t 15 with
      | .int _ z => k z.toNat
      | _ => False, rdI⟩
    kinv := fun y z => match z.1 with
      | false => y = 0
      | true => y = 1
    al := fun k => (∀ z, k (false, z)) ∧ ∀ z, k (true, z)
    alOK := fun k h z => match z with
      | (false, z) => h.1 z
      | (true, z) => h.2 z }
noncomputable def crL (f : Fl) (s : Nat) : Nat → Option HSpec :=
  twoL 0 (natH (fun w => w ≤ 2) (fun w => 2 - w) 2 (fun w => mkF 51 [(0, i6 s), (1, f.sv), (4, .ptr 0 0 0), (5, .ptr 1 0 0), (14, cloS s), (15, i6 w)]) (fun w => mkX [vr 4 z4, vr 4 (crR f s w 0)]) fun _ => none) <|
  oneL 2 (crS f s)
noncomputable def croG (f : Fl) (s : Nat) : Prop := funH Try.prog (ctrs [takC, givC]) noX (ictrs []) (crL f s) noL gcross [i6 s, f.sv] (crV f s)
def loC : Ctr := ⟨glo, fun args k => match args with
  | [.agg [.int .i64 a, .int .i64 b]] => k (i6 a)
  | _ => False⟩
def hiC : Ctr := ⟨ghi, fun args k => match args with
  | [.agg [.int .i64 a, .int .i64 b]] => k (i6 b)
  | _ => False⟩
noncomputable def loG (a b : Int) : Prop := funH Try.prog (ctrs []) noX (ictrs []) noL noL glo [.agg [i6 a, i6 b]] (i6 a)
noncomputable def hiG (a b : Int) : Prop := funH Try.prog (ctrs []) noX (ictrs []) noL noL ghi [.agg [i6 a, i6 b]] (i6 b)
def maxC : Ctr := ⟨gmax, fun args k => match args with
  | [.int .i64 a, .int .i64 b] => k (i6 (max a b))
  | _ => False⟩
def minC : Ctr := ⟨gmin, fun args k => match args with
  | [.int .i64 a, .int .i64 b] => k (i6 (min a b))
  | _ => False⟩
noncomputable def maxG (a b : Int) : Prop := funH Try.prog (ctrs []) noX (ictrs []) noL noL gmax [i6 a, i6 b] (i6 (max a b))
noncomputable def minG (a b : Int) : Prop := funH Try.prog (ctrs []) noX (ictrs []) noL noL gmin [i6 a, i6 b] (i6 (min a b))
def fnV (g : FuncId) : SV := .val (.func (.func g) #[] #[])
def endV : Bool → SV
  | false => .agg [fnV glo, fnV ghi, fnV gmax]
  | true => .agg [fnV ghi, fnV glo, fnV gmin]
noncomputable def leaG : Prop := funH Try.prog (ctrs []) noX (ictrs []) noL noL gleast [] (endV false)
noncomputable def greG : Prop := funH Try.prog (ctrs []) noX (ictrs []) noL noL ggreat [] (endV true)
def leaC : Ctr := ⟨gleast, fun args k => match args with
  | [] => k (endV false)
  | _ => False⟩
def greC : Ctr := ⟨ggreat, fun args k => match args with
  | [] => k (endV true)
  | _ => False⟩
end Go.Proofs.Ytmjbflifegmmnaa

set_option maxRecDepth 100000
namespace Go.Proofs.Ytmjbflifegmmnaa
open Go Go.Lg
theorem hasG_vc (s:Int) (x:Int):hasG s x =
(((0:Int)≤x∧x≤(↑(64:Nat):Int)) ∧
 (bitA IntKind.i64 (s.fdiv (shP x)) (1:Int)=(1:Int)↔hb s.toNat x=true)∧True):=by kernel_rfl
theorem takG_vc (s:Int) (a:Int) (b:Int) (c:Int) (d:Int):takG s a b c d =
((0:Nat)<(1:Nat) ∧
 (((0:Int)≤s∧s≤(1000:Int))∧(0:Int)≤b∧b<(64:Int)) ∧
  (hb s.toNat b=true →
    (0:Nat)<(1:Nat) ∧
     (((0:Int)≤s∧s≤(1000:Int))∧(0:Int)≤a∧a<(64:Int)) ∧
      (¬hb s.toNat a=true↔Bool.rec false (!hb s.toNat a) (hb s.toNat b)=true)∧True) ∧
   (¬hb s.toNat b=true→(false=true↔Bool.rec false (!hb s.toNat a) (hb s.toNat b)=true)∧True)):=by kernel_rfl
theorem givG_vc (s:Int) (a:Int) (b:Int) (c:Int) (d:Int):givG s a b c d =
((0:Nat)<(1:Nat) ∧
 (((0:Int)≤s∧s≤(1000:Int))∧(0:Int)≤a∧a<(64:Int)) ∧
  (hb s.toNat a=true →
    (0:Nat)<(1:Nat) ∧
     (((0:Int)≤s∧s≤(1000:Int))∧(0:Int)≤b∧b<(64:Int)) ∧
      (¬hb s.toNat b=true↔Bool.rec false (!hb s.toNat b) (hb s.toNat a)=true)∧True) ∧
   (¬hb s.toNat a=true→(false=true↔Bool.rec false (!hb s.toNat b) (hb s.toNat a)=true)∧True)):=by kernel_rfl
theorem croG_vc (f:Fl) (s:Nat):croG f s =
((∃ z,z≤(2:Nat)∧rE (↑s:Int)∧f.1=f.1∧(∀ (i:Nat),i<f.1→rE ((f.el i).den)∧True∧True∧True∧True∧True)∧rE (0:Nat)∧rE (0:Nat)∧rE (0:Nat)∧rE (0:Nat)∧Fn.func (48:Nat)=Fn.func gtakes∧rE (↑s:Int)∧Fn.func (58:Nat)=Fn.func ggives∧rE (↑s:Int)∧(0:Int)=(↑z:Int)∧rE (0:Int)∧rE (0:Int)∧rE (0:Int)∧rE (0:Int)∧(0:Int)=cr0 f s f.lo z (0:Nat)∧(0:Int)=cr0 f s f.hi z (0:Nat)∧(0:Int)=cr1 f s f.lo z (0:Nat)∧(0:Int)=cr1 f s f.hi z (0:Nat)∧True)∧∀ (z:Nat),z≤(2:Nat)→((↑z:Int)<(2:Int)→(0:Int)≤(↑z:Int)∧(↑z:Int)<(↑(2:Nat):Int)∧(↑z:Int).toNat*(1:Nat)<(2:Nat)∧(True∧((↑z:Int).toNat*(1:Nat)=(0:Nat)→(∃ z_1,(z_1≤f.1∧(↑z:Int).toNat=(0:Nat))∧rE (↑s:Int)∧f.1=f.1∧(∀ (i:Nat),i<f.1→rE ((f.el i).den)∧True∧True∧True
∧ True∧True)∧rE (0:Nat)∧rE (0:Nat)∧rE (0:Nat)∧rE (0:Nat)∧(↑z:Int)=(↑(0:Nat):Int)∧rE (Fn.func gtakes)∧rE (↑s:Int)∧rE (Fn.func gtakes)∧rE (↑s:Int)∧rE (Fn.func ggives)∧rE (↑s:Int)∧(↑z:Int)=(↑(0:Nat):Int)∧f.1=f.1∧(∀ (i:Nat),i<f.1→rE ((f.el i).den)∧True∧True∧True∧True∧True)∧rE (↑f.1:Int)∧(0:Int)=(↑z_1:Int)∧rE (0:Int)∧rE (0:Int)∧rE (0:Int)∧rE (0:Int)∧cr0 f s f.lo z (0:Nat)=cr0 f s f.lo (0:Nat) z_1∧cr0 f s f.hi z (0:Nat)=cr0 f s f.hi (0:Nat) z_1∧cr1 f s f.lo z (0:Nat)=cr1 f s f.lo (0:Nat) z_1∧cr1 f s f.hi z (0:Nat)=cr1 f s f.hi (0:Nat) z_1∧True)∧(∀ (z_1:Nat),z_1≤f.1∧(↑z:Int).toNat=(0:Nat)→((↑z_1:Int)<(↑f.1:Int)→(0:Int)≤(↑z_1:Int)∧(↑z_1:Int)<(↑f.1:Int)∧(0:Nat)<(1:Nat)∧(((0:Int)≤(↑s:Int)∧(↑s:Int) ≤
(1000:Int))∧((0:Int)≤f.2 (↑z_1:Int).toNat∧f.2 (↑z_1:Int).toNat<(64:Int))∧(0:Int)≤f.3 (↑z_1:Int).toNat∧f.3 (↑z_1:Int).toNat<(64:Int))∧(Bool.rec false (!hb (↑s:Int).toNat (f.fr (↑z_1:Int).toNat)) (hb (↑s:Int).toNat (f.to (↑z_1:Int).toNat))=true→(0:Int)≤(↑(0:Nat):Int)∧(↑(0:Nat):Int)<(↑(2:Nat):Int)∧(0:Nat)<(1:Nat)∧(0:Nat)+(↑(0:Nat):Int).toNat*(2:Nat)+(0:Nat)<(4:Nat)∧(0:Nat)<(1:Nat)∧rI (cellZ (crR f s (0:Nat) z_1).cells ((0:Nat)+(↑(0:Nat):Int).toNat*(2:Nat)+(0:Nat))+f.4 (↑z_1:Int).toNat)∧(0:Int)≤(↑(0:Nat):Int)∧(↑(0:Nat):Int)<(↑(2:Nat):Int)∧(0:Nat)+(↑(0:Nat):Int).toNat*(2:Nat)+(0:Nat)<(4:Nat)∧(0:Int)≤(↑(0:Nat):Int)∧(↑(0:Nat):Int)<(↑(2:Nat):Int)∧(0:Nat)<(1:Nat)∧(0:Nat)+(↑(0:Nat) :
Int).toNat*(2:Nat)+(1:Nat)<(4:Nat)∧(0:Nat)<(1:Nat)∧rI (cellZ ((SRow.v (4:Nat) (SV.agg (setZ IntKind.i64 ((0:Nat)+(↑(0:Nat):Int).toNat*Nat.succ (1:Nat)+(0:Nat)) (cellZ (crR f s (0:Nat) z_1).cells ((0:Nat)+(↑(0:Nat):Int).toNat*Nat.succ (1:Nat)+(0:Nat))+f.lo (↑z_1:Int).toNat) [i6 (cr0 f s f.lo (0:Nat) z_1),i6 (cr0 f s f.hi (0:Nat) z_1),i6 (cr1 f s f.lo (0:Nat) z_1),i6 (cr1 f s f.hi (0:Nat) z_1)] (0:Nat)))).f (0:Nat)).cells ((0:Nat)+(↑(0:Nat):Int).toNat*(2:Nat)+(1:Nat))+f.5 (↑z_1:Int).toNat)∧(0:Int)≤(↑(0:Nat):Int)∧(↑(0:Nat):Int)<(↑(2:Nat):Int)∧(0:Nat)+(↑(0:Nat):Int).toNat*(2:Nat)+(1:Nat)<(4:Nat)∧rI ((↑z_1:Int)+(1:Int))∧∃ z_2,(z_2≤f.1∧(↑z:Int).toNat=(0:Nat))∧f.1 - z_2<f.1 - z_1∧rE (↑s:Int)∧f.1=f.1∧(∀ (i:Nat),i<f.1
→ rE ((f.el i).den)∧True∧True∧True∧True∧True)∧rE (0:Nat)∧rE (0:Nat)∧rE (0:Nat)∧rE (0:Nat)∧rE (↑(0:Nat):Int)∧rE (Fn.func gtakes)∧rE (↑s:Int)∧rE (Fn.func gtakes)∧rE (↑s:Int)∧rE (Fn.func ggives)∧rE (↑s:Int)∧rE (↑(0:Nat):Int)∧f.1=f.1∧(∀ (i:Nat),i<f.1→rE ((f.el i).den)∧True∧True∧True∧True∧True)∧rE (↑f.1:Int)∧(↑z_1:Int)+(1:Int)=(↑z_2:Int)∧rE (0:Int)∧rE (0:Int)∧rE (0:Int)∧rE (0:Int)∧(if (0:Nat)+(↑(0:Nat):Int).toNat*(2:Nat)+(1:Nat)=(0:Nat) then cellZ ((SRow.v (4:Nat) (SV.agg (setZ IntKind.i64 ((0:Nat)+(↑(0:Nat):Int).toNat*Nat.succ (1:Nat)+(0:Nat)) (cellZ (crR f s (0:Nat) z_1).cells ((0:Nat)+(↑(0:Nat):Int).toNat*Nat.succ (1:Nat)+(0:Nat))+f.lo (↑z_1:Int).toNat) [i6 (cr0 f s f.lo (0:Nat) z_1),i6 (cr0 f s f.hi (0:Nat) z_1),
i6 (cr1 f s f.lo (0:Nat) z_1),i6 (cr1 f s f.hi (0:Nat) z_1)] (0:Nat)))).f (0:Nat)).cells ((0:Nat)+(↑(0:Nat):Int).toNat*(2:Nat)+(1:Nat))+f.5 (↑z_1:Int).toNat else if (0:Nat)+(↑(0:Nat):Int).toNat*(2:Nat)+(0:Nat)=(0:Nat) then cellZ (crR f s (0:Nat) z_1).cells ((0:Nat)+(↑(0:Nat):Int).toNat*(2:Nat)+(0:Nat))+f.4 (↑z_1:Int).toNat else cr0 f s f.lo (0:Nat) z_1)=cr0 f s f.lo (0:Nat) z_2∧(if (0:Nat)+(↑(0:Nat):Int).toNat*(2:Nat)+(1:Nat)=(0:Nat)+(1:Nat) then cellZ ((SRow.v (4:Nat) (SV.agg (setZ IntKind.i64 ((0:Nat)+(↑(0:Nat):Int).toNat*Nat.succ (1:Nat)+(0:Nat)) (cellZ (crR f s (0:Nat) z_1).cells ((0:Nat)+(↑(0:Nat):Int).toNat*Nat.succ (1:Nat)+(0:Nat))+f.lo (↑z_1:Int).toNat) [i6 (cr0 f s f.lo (0:Nat) z_1),i6 (cr0 f s f.hi (0:Nat) z_1),i6 (cr1 f s f.lo (0
: Nat) z_1),i6 (cr1 f s f.hi (0:Nat) z_1)] (0:Nat)))).f (0:Nat)).cells ((0:Nat)+(↑(0:Nat):Int).toNat*(2:Nat)+(1:Nat))+f.5 (↑z_1:Int).toNat else if (0:Nat)+(↑(0:Nat):Int).toNat*(2:Nat)+(0:Nat)=(0:Nat)+(1:Nat) then cellZ (crR f s (0:Nat) z_1).cells ((0:Nat)+(↑(0:Nat):Int).toNat*(2:Nat)+(0:Nat))+f.4 (↑z_1:Int).toNat else cr0 f s f.hi (0:Nat) z_1)=cr0 f s f.hi (0:Nat) z_2∧(if (0:Nat)+(↑(0:Nat):Int).toNat*(2:Nat)+(1:Nat)=(0:Nat)+(1:Nat)+(1:Nat) then cellZ ((SRow.v (4:Nat) (SV.agg (setZ IntKind.i64 ((0:Nat)+(↑(0:Nat):Int).toNat*Nat.succ (1:Nat)+(0:Nat)) (cellZ (crR f s (0:Nat) z_1).cells ((0:Nat)+(↑(0:Nat):Int).toNat*Nat.succ (1:Nat)+(0:Nat))+f.lo (↑z_1:Int).toNat) [i6 (cr0 f s f.lo (0:Nat) z_1),i6 (cr0 f s f.hi (0:Nat) z_1),i6 (cr1 f s
f.lo (0:Nat) z_1),i6 (cr1 f s f.hi (0:Nat) z_1)] (0:Nat)))).f (0:Nat)).cells ((0:Nat)+(↑(0:Nat):Int).toNat*(2:Nat)+(1:Nat))+f.5 (↑z_1:Int).toNat else if (0:Nat)+(↑(0:Nat):Int).toNat*(2:Nat)+(0:Nat)=(0:Nat)+(1:Nat)+(1:Nat) then cellZ (crR f s (0:Nat) z_1).cells ((0:Nat)+(↑(0:Nat):Int).toNat*(2:Nat)+(0:Nat))+f.4 (↑z_1:Int).toNat else cr1 f s f.lo (0:Nat) z_1)=cr1 f s f.lo (0:Nat) z_2∧(if (0:Nat)+(↑(0:Nat):Int).toNat*(2:Nat)+(1:Nat)=(0:Nat)+(1:Nat)+(1:Nat)+(1:Nat) then cellZ ((SRow.v (4:Nat) (SV.agg (setZ IntKind.i64 ((0:Nat)+(↑(0:Nat):Int).toNat*Nat.succ (1:Nat)+(0:Nat)) (cellZ (crR f s (0:Nat) z_1).cells ((0:Nat)+(↑(0:Nat):Int).toNat*Nat.succ (1:Nat)+(0:Nat))+f.lo (↑z_1:Int).toNat) [i6 (cr0 f s f.lo (0:Nat) z_1),i6 (cr0 f s f.hi
(0:Nat) z_1),i6 (cr1 f s f.lo (0:Nat) z_1),i6 (cr1 f s f.hi (0:Nat) z_1)] (0:Nat)))).f (0:Nat)).cells ((0:Nat)+(↑(0:Nat):Int).toNat*(2:Nat)+(1:Nat))+f.5 (↑z_1:Int).toNat else if (0:Nat)+(↑(0:Nat):Int).toNat*(2:Nat)+(0:Nat)=(0:Nat)+(1:Nat)+(1:Nat)+(1:Nat) then cellZ (crR f s (0:Nat) z_1).cells ((0:Nat)+(↑(0:Nat):Int).toNat*(2:Nat)+(0:Nat))+f.4 (↑z_1:Int).toNat else cr1 f s f.hi (0:Nat) z_1)=cr1 f s f.hi (0:Nat) z_2∧True)∧(¬Bool.rec false (!hb (↑s:Int).toNat (f.fr (↑z_1:Int).toNat)) (hb (↑s:Int).toNat (f.to (↑z_1:Int).toNat))=true→rI ((↑z_1:Int)+(1:Int))∧∃ z_2,(z_2≤f.1∧(↑z:Int).toNat=(0:Nat))∧f.1 - z_2<f.1 - z_1∧rE (↑s:Int)∧f.1=f.1∧(∀ (i:Nat),i<f.1→rE ((f.el i).den)∧True∧True∧True∧True∧True)∧rE (0:Nat)∧rE (0:Nat)∧rE (0 :
Nat)∧rE (0:Nat)∧rE (↑(0:Nat):Int)∧rE (Fn.func gtakes)∧rE (↑s:Int)∧rE (Fn.func gtakes)∧rE (↑s:Int)∧rE (Fn.func ggives)∧rE (↑s:Int)∧rE (↑(0:Nat):Int)∧f.1=f.1∧(∀ (i:Nat),i<f.1→rE ((f.el i).den)∧True∧True∧True∧True∧True)∧rE (↑f.1:Int)∧(↑z_1:Int)+(1:Int)=(↑z_2:Int)∧rE (0:Int)∧rE (0:Int)∧rE (0:Int)∧rE (0:Int)∧cr0 f s f.lo (0:Nat) z_1=cr0 f s f.lo (0:Nat) z_2∧cr0 f s f.hi (0:Nat) z_1=cr0 f s f.hi (0:Nat) z_2∧cr1 f s f.lo (0:Nat) z_1=cr1 f s f.lo (0:Nat) z_2∧cr1 f s f.hi (0:Nat) z_1=cr1 f s f.hi (0:Nat) z_2∧True))∧(¬(↑z_1:Int)<(↑f.1:Int)→rI ((↑(0:Nat):Int)+(1:Int))∧∃ z_2,z_2≤(2:Nat)∧(2:Nat) - z_2<(2:Nat) - z∧rE (↑s:Int)∧f.1=f.1∧(∀ (i:Nat),i<f.1→rE ((f.el i).den)∧True∧True∧True∧True∧True)∧rE (0:Nat)∧rE (0 :
Nat)∧rE (0:Nat)∧rE (0:Nat)∧rE (Fn.func gtakes)∧rE (↑s:Int)∧rE (Fn.func ggives)∧rE (↑s:Int)∧(↑(0:Nat):Int)+(1:Int)=(↑z_2:Int)∧rE (0:Int)∧rE (0:Int)∧rE (0:Int)∧rE (0:Int)∧cr0 f s f.lo (0:Nat) z_1=cr0 f s f.lo z_2 (0:Nat)∧cr0 f s f.hi (0:Nat) z_1=cr0 f s f.hi z_2 (0:Nat)∧cr1 f s f.lo (0:Nat) z_1=cr1 f s f.lo z_2 (0:Nat)∧cr1 f s f.hi (0:Nat) z_1=cr1 f s f.hi z_2 (0:Nat)∧True))∧∀ (z_1:Nat),z_1≤f.1∧(↑z:Int).toNat=(1:Nat)→((↑z_1:Int)<(↑f.1:Int)→(0:Int)≤(↑z_1:Int)∧(↑z_1:Int)<(↑f.1:Int)∧(0:Nat)<(1:Nat)∧(((0:Int)≤(↑s:Int)∧(↑s:Int)≤(1000:Int))∧((0:Int)≤f.2 (↑z_1:Int).toNat∧f.2 (↑z_1:Int).toNat<(64:Int))∧(0:Int)≤f.3 (↑z_1:Int).toNat∧f.3 (↑z_1:Int).toNat<(64:Int))∧(Bool.rec false (!hb (↑s:Int).toNat (f.to (↑z_1 :
Int).toNat)) (hb (↑s:Int).toNat (f.fr (↑z_1:Int).toNat))=true→(0:Int)≤(↑(1:Nat):Int)∧(↑(1:Nat):Int)<(↑(2:Nat):Int)∧(0:Nat)<(1:Nat)∧(0:Nat)+(↑(1:Nat):Int).toNat*(2:Nat)+(0:Nat)<(4:Nat)∧(0:Nat)<(1:Nat)∧rI (cellZ (crR f s (1:Nat) z_1).cells ((0:Nat)+(↑(1:Nat):Int).toNat*(2:Nat)+(0:Nat))+f.4 (↑z_1:Int).toNat)∧(0:Int)≤(↑(1:Nat):Int)∧(↑(1:Nat):Int)<(↑(2:Nat):Int)∧(0:Nat)+(↑(1:Nat):Int).toNat*(2:Nat)+(0:Nat)<(4:Nat)∧(0:Int)≤(↑(1:Nat):Int)∧(↑(1:Nat):Int)<(↑(2:Nat):Int)∧(0:Nat)<(1:Nat)∧(0:Nat)+(↑(1:Nat):Int).toNat*(2:Nat)+(1:Nat)<(4:Nat)∧(0:Nat)<(1:Nat)∧rI (cellZ ((SRow.v (4:Nat) (SV.agg (setZ IntKind.i64 ((0:Nat)+(↑(1:Nat):Int).toNat*Nat.succ (1:Nat)+(0:Nat)) (cellZ (crR f s (1:Nat)
z_1).cells ((0:Nat)+(↑(1:Nat):Int).toNat*Nat.succ (1:Nat)+(0:Nat))+f.lo (↑z_1:Int).toNat) [i6 (cr0 f s f.lo (1:Nat) z_1),i6 (cr0 f s f.hi (1:Nat) z_1),i6 (cr1 f s f.lo (1:Nat) z_1),i6 (cr1 f s f.hi (1:Nat) z_1)] (0:Nat)))).f (0:Nat)).cells ((0:Nat)+(↑(1:Nat):Int).toNat*(2:Nat)+(1:Nat))+f.5 (↑z_1:Int).toNat)∧(0:Int)≤(↑(1:Nat):Int)∧(↑(1:Nat):Int)<(↑(2:Nat):Int)∧(0:Nat)+(↑(1:Nat):Int).toNat*(2:Nat)+(1:Nat)<(4:Nat)∧rI ((↑z_1:Int)+(1:Int))∧∃ z_2,(z_2≤f.1∧(↑z:Int).toNat=(1:Nat))∧f.1 - z_2<f.1 - z_1∧rE (↑s:Int)∧f.1=f.1∧(∀ (i:Nat),i<f.1→rE ((f.el i).den)∧True∧True∧True∧True∧True)∧rE (0:Nat)∧rE (0:Nat)∧rE (0:Nat)∧rE (0:Nat)∧rE (↑(1:Nat):Int)∧rE (Fn.func ggives)∧rE (↑s:Int)∧rE (Fn.func gtakes)∧rE (↑s:Int)∧rE
(Fn.func ggives)∧rE (↑s:Int)∧rE (↑(1:Nat):Int)∧f.1=f.1∧(∀ (i:Nat),i<f.1→rE ((f.el i).den)∧True∧True∧True∧True∧True)∧rE (↑f.1:Int)∧(↑z_1:Int)+(1:Int)=(↑z_2:Int)∧rE (0:Int)∧rE (0:Int)∧rE (0:Int)∧rE (0:Int)∧(if (0:Nat)+(↑(1:Nat):Int).toNat*(2:Nat)+(1:Nat)=(0:Nat) then cellZ ((SRow.v (4:Nat) (SV.agg (setZ IntKind.i64 ((0:Nat)+(↑(1:Nat):Int).toNat*Nat.succ (1:Nat)+(0:Nat)) (cellZ (crR f s (1:Nat) z_1).cells ((0:Nat)+(↑(1:Nat):Int).toNat*Nat.succ (1:Nat)+(0:Nat))+f.lo (↑z_1:Int).toNat) [i6 (cr0 f s f.lo (1:Nat) z_1),i6 (cr0 f s f.hi (1:Nat) z_1),i6 (cr1 f s f.lo (1:Nat) z_1),i6 (cr1 f s f.hi (1:Nat) z_1)] (0:Nat)))).f (0:Nat)).cells ((0:Nat)+(↑(1:Nat):Int).toNat*(2:Nat)+(1:Nat))+f.5 (↑z_1:Int).toNat else if (0:Nat)+(↑(1:Nat) :
Int).toNat*(2:Nat)+(0:Nat)=(0:Nat) then cellZ (crR f s (1:Nat) z_1).cells ((0:Nat)+(↑(1:Nat):Int).toNat*(2:Nat)+(0:Nat))+f.4 (↑z_1:Int).toNat else cr0 f s f.lo (1:Nat) z_1)=cr0 f s f.lo (1:Nat) z_2∧(if (0:Nat)+(↑(1:Nat):Int).toNat*(2:Nat)+(1:Nat)=(0:Nat)+(1:Nat) then cellZ ((SRow.v (4:Nat) (SV.agg (setZ IntKind.i64 ((0:Nat)+(↑(1:Nat):Int).toNat*Nat.succ (1:Nat)+(0:Nat)) (cellZ (crR f s (1:Nat) z_1).cells ((0:Nat)+(↑(1:Nat):Int).toNat*Nat.succ (1:Nat)+(0:Nat))+f.lo (↑z_1:Int).toNat) [i6 (cr0 f s f.lo (1:Nat) z_1),i6 (cr0 f s f.hi (1:Nat) z_1),i6 (cr1 f s f.lo (1:Nat) z_1),i6 (cr1 f s f.hi (1:Nat) z_1)] (0:Nat)))).f (0:Nat)).cells ((0:Nat)+(↑(1:Nat):Int).toNat*(2:Nat)+(1:Nat))+f.5 (↑z_1:Int).toNat else if (0:Nat)+(↑(1:Nat):Int).toNat*(2 :
Nat)+(0:Nat)=(0:Nat)+(1:Nat) then cellZ (crR f s (1:Nat) z_1).cells ((0:Nat)+(↑(1:Nat):Int).toNat*(2:Nat)+(0:Nat))+f.4 (↑z_1:Int).toNat else cr0 f s f.hi (1:Nat) z_1)=cr0 f s f.hi (1:Nat) z_2∧(if (0:Nat)+(↑(1:Nat):Int).toNat*(2:Nat)+(1:Nat)=(0:Nat)+(1:Nat)+(1:Nat) then cellZ ((SRow.v (4:Nat) (SV.agg (setZ IntKind.i64 ((0:Nat)+(↑(1:Nat):Int).toNat*Nat.succ (1:Nat)+(0:Nat)) (cellZ (crR f s (1:Nat) z_1).cells ((0:Nat)+(↑(1:Nat):Int).toNat*Nat.succ (1:Nat)+(0:Nat))+f.lo (↑z_1:Int).toNat) [i6 (cr0 f s f.lo (1:Nat) z_1),i6 (cr0 f s f.hi (1:Nat) z_1),i6 (cr1 f s f.lo (1:Nat) z_1),i6 (cr1 f s f.hi (1:Nat) z_1)] (0:Nat)))).f (0:Nat)).cells ((0:Nat)+(↑(1:Nat):Int).toNat*(2:Nat)+(1:Nat))+f.5 (↑z_1:Int).toNat else if (0:Nat)+(↑(1:Nat):Int).toNat *
(2:Nat)+(0:Nat)=(0:Nat)+(1:Nat)+(1:Nat) then cellZ (crR f s (1:Nat) z_1).cells ((0:Nat)+(↑(1:Nat):Int).toNat*(2:Nat)+(0:Nat))+f.4 (↑z_1:Int).toNat else cr1 f s f.lo (1:Nat) z_1)=cr1 f s f.lo (1:Nat) z_2∧(if (0:Nat)+(↑(1:Nat):Int).toNat*(2:Nat)+(1:Nat)=(0:Nat)+(1:Nat)+(1:Nat)+(1:Nat) then cellZ ((SRow.v (4:Nat) (SV.agg (setZ IntKind.i64 ((0:Nat)+(↑(1:Nat):Int).toNat*Nat.succ (1:Nat)+(0:Nat)) (cellZ (crR f s (1:Nat) z_1).cells ((0:Nat)+(↑(1:Nat):Int).toNat*Nat.succ (1:Nat)+(0:Nat))+f.lo (↑z_1:Int).toNat) [i6 (cr0 f s f.lo (1:Nat) z_1),i6 (cr0 f s f.hi (1:Nat) z_1),i6 (cr1 f s f.lo (1:Nat) z_1),i6 (cr1 f s f.hi (1:Nat) z_1)] (0:Nat)))).f (0:Nat)).cells ((0:Nat)+(↑(1:Nat):Int).toNat*(2:Nat)+(1:Nat))+f.5 (↑z_1:Int).toNat else if (0:Nat)
+ (↑(1:Nat):Int).toNat*(2:Nat)+(0:Nat)=(0:Nat)+(1:Nat)+(1:Nat)+(1:Nat) then cellZ (crR f s (1:Nat) z_1).cells ((0:Nat)+(↑(1:Nat):Int).toNat*(2:Nat)+(0:Nat))+f.4 (↑z_1:Int).toNat else cr1 f s f.hi (1:Nat) z_1)=cr1 f s f.hi (1:Nat) z_2∧True)∧(¬Bool.rec false (!hb (↑s:Int).toNat (f.to (↑z_1:Int).toNat)) (hb (↑s:Int).toNat (f.fr (↑z_1:Int).toNat))=true→rI ((↑z_1:Int)+(1:Int))∧∃ z_2,(z_2≤f.1∧(↑z:Int).toNat=(1:Nat))∧f.1 - z_2<f.1 - z_1∧rE (↑s:Int)∧f.1=f.1∧(∀ (i:Nat),i<f.1→rE ((f.el i).den)∧True∧True∧True∧True∧True)∧rE (0:Nat)∧rE (0:Nat)∧rE (0:Nat)∧rE (0:Nat)∧rE (↑(1:Nat):Int)∧rE (Fn.func ggives)∧rE (↑s:Int)∧rE (Fn.func gtakes)∧rE (↑s:Int)∧rE (Fn.func ggives)∧rE (↑s:Int)∧rE (↑(1:Nat):Int)∧f.1=f.1∧(∀ (i:Nat),i<f.1→rE
((f.el i).den)∧True∧True∧True∧True∧True)∧rE (↑f.1:Int)∧(↑z_1:Int)+(1:Int)=(↑z_2:Int)∧rE (0:Int)∧rE (0:Int)∧rE (0:Int)∧rE (0:Int)∧cr0 f s f.lo (1:Nat) z_1=cr0 f s f.lo (1:Nat) z_2∧cr0 f s f.hi (1:Nat) z_1=cr0 f s f.hi (1:Nat) z_2∧cr1 f s f.lo (1:Nat) z_1=cr1 f s f.lo (1:Nat) z_2∧cr1 f s f.hi (1:Nat) z_1=cr1 f s f.hi (1:Nat) z_2∧True))∧(¬(↑z_1:Int)<(↑f.1:Int)→rI ((↑(1:Nat):Int)+(1:Int))∧∃ z_2,z_2≤(2:Nat)∧(2:Nat) - z_2<(2:Nat) - z∧rE (↑s:Int)∧f.1=f.1∧(∀ (i:Nat),i<f.1→rE ((f.el i).den)∧True∧True∧True∧True∧True)∧rE (0:Nat)∧rE (0:Nat)∧rE (0:Nat)∧rE (0:Nat)∧rE (Fn.func gtakes)∧rE (↑s:Int)∧rE (Fn.func ggives)∧rE (↑s:Int)∧(↑(1:Nat):Int)+(1:Int)=(↑z_2:Int)∧rE (0:Int)∧rE (0:Int)∧rE (0:Int)∧rE (0:Int)∧cr0
f s f.lo (1:Nat) z_1=cr0 f s f.lo z_2 (0:Nat)∧cr0 f s f.hi (1:Nat) z_1=cr0 f s f.hi z_2 (0:Nat)∧cr1 f s f.lo (1:Nat) z_1=cr1 f s f.lo z_2 (0:Nat)∧cr1 f s f.hi (1:Nat) z_1=cr1 f s f.hi z_2 (0:Nat)∧True)))∧((↑z:Int).toNat*(1:Nat)=(1:Nat)→(∃ z_1,(z_1≤f.1∧(↑z:Int).toNat=(1:Nat))∧rE (↑s:Int)∧f.1=f.1∧(∀ (i:Nat),i<f.1→rE ((f.el i).den)∧True∧True∧True∧True∧True)∧rE (0:Nat)∧rE (0:Nat)∧rE (0:Nat)∧rE (0:Nat)∧(↑z:Int)=(↑(1:Nat):Int)∧rE (Fn.func ggives)∧rE (↑s:Int)∧rE (Fn.func gtakes)∧rE (↑s:Int)∧rE (Fn.func ggives)∧rE (↑s:Int)∧(↑z:Int)=(↑(1:Nat):Int)∧f.1=f.1∧(∀ (i:Nat),i<f.1→rE ((f.el i).den)∧True∧True∧True∧True∧True)∧rE (↑f.1:Int)∧(0:Int)=(↑z_1:Int)∧rE (0:Int)∧rE (0:Int)∧rE (0:Int)∧rE (0:Int)∧cr0 f s f.lo z (0
: Nat)=cr0 f s f.lo (1:Nat) z_1∧cr0 f s f.hi z (0:Nat)=cr0 f s f.hi (1:Nat) z_1∧cr1 f s f.lo z (0:Nat)=cr1 f s f.lo (1:Nat) z_1∧cr1 f s f.hi z (0:Nat)=cr1 f s f.hi (1:Nat) z_1∧True)∧(∀ (z_1:Nat),z_1≤f.1∧(↑z:Int).toNat=(0:Nat)→((↑z_1:Int)<(↑f.1:Int)→(0:Int)≤(↑z_1:Int)∧(↑z_1:Int)<(↑f.1:Int)∧(0:Nat)<(1:Nat)∧(((0:Int)≤(↑s:Int)∧(↑s:Int)≤(1000:Int))∧((0:Int)≤f.2 (↑z_1:Int).toNat∧f.2 (↑z_1:Int).toNat<(64:Int))∧(0:Int)≤f.3 (↑z_1:Int).toNat∧f.3 (↑z_1:Int).toNat<(64:Int))∧(Bool.rec false (!hb (↑s:Int).toNat (f.fr (↑z_1:Int).toNat)) (hb (↑s:Int).toNat (f.to (↑z_1:Int).toNat))=true→(0:Int)≤(↑(0:Nat):Int)∧(↑(0:Nat):Int)<(↑(2:Nat):Int)∧(0:Nat)<(1:Nat)∧(0:Nat)+(↑(0:Nat):Int).toNat*(2:Nat)+(0:Nat)<(4:Nat)∧(0:Nat)
< (1:Nat)∧rI (cellZ (crR f s (0:Nat) z_1).cells ((0:Nat)+(↑(0:Nat):Int).toNat*(2:Nat)+(0:Nat))+f.4 (↑z_1:Int).toNat)∧(0:Int)≤(↑(0:Nat):Int)∧(↑(0:Nat):Int)<(↑(2:Nat):Int)∧(0:Nat)+(↑(0:Nat):Int).toNat*(2:Nat)+(0:Nat)<(4:Nat)∧(0:Int)≤(↑(0:Nat):Int)∧(↑(0:Nat):Int)<(↑(2:Nat):Int)∧(0:Nat)<(1:Nat)∧(0:Nat)+(↑(0:Nat):Int).toNat*(2:Nat)+(1:Nat)<(4:Nat)∧(0:Nat)<(1:Nat)∧rI (cellZ ((SRow.v (4:Nat) (SV.agg (setZ IntKind.i64 ((0:Nat)+(↑(0:Nat):Int).toNat*Nat.succ (1:Nat)+(0:Nat)) (cellZ (crR f s (0:Nat) z_1).cells ((0:Nat)+(↑(0:Nat):Int).toNat*Nat.succ (1:Nat)+(0:Nat))+f.lo (↑z_1:Int).toNat) [i6 (cr0 f s f.lo (0:Nat) z_1),i6 (cr0 f s f.hi (0:Nat) z_1),i6 (cr1 f s f.lo (0:Nat) z_1),i6 (cr1 f s f.hi (0:Nat) z_1)] (0 :
Nat)))).f (0:Nat)).cells ((0:Nat)+(↑(0:Nat):Int).toNat*(2:Nat)+(1:Nat))+f.5 (↑z_1:Int).toNat)∧(0:Int)≤(↑(0:Nat):Int)∧(↑(0:Nat):Int)<(↑(2:Nat):Int)∧(0:Nat)+(↑(0:Nat):Int).toNat*(2:Nat)+(1:Nat)<(4:Nat)∧rI ((↑z_1:Int)+(1:Int))∧∃ z_2,(z_2≤f.1∧(↑z:Int).toNat=(0:Nat))∧f.1 - z_2<f.1 - z_1∧rE (↑s:Int)∧f.1=f.1∧(∀ (i:Nat),i<f.1→rE ((f.el i).den)∧True∧True∧True∧True∧True)∧rE (0:Nat)∧rE (0:Nat)∧rE (0:Nat)∧rE (0:Nat)∧rE (↑(0:Nat):Int)∧rE (Fn.func gtakes)∧rE (↑s:Int)∧rE (Fn.func gtakes)∧rE (↑s:Int)∧rE (Fn.func ggives)∧rE (↑s:Int)∧rE (↑(0:Nat):Int)∧f.1=f.1∧(∀ (i:Nat),i<f.1→rE ((f.el i).den)∧True∧True∧True∧True∧True)∧rE (↑f.1:Int)∧(↑z_1:Int)+(1:Int)=(↑z_2:Int)∧rE (0:Int)∧rE (0:Int)∧rE (0 :
Int)∧rE (0:Int)∧(if (0:Nat)+(↑(0:Nat):Int).toNat*(2:Nat)+(1:Nat)=(0:Nat) then cellZ ((SRow.v (4:Nat) (SV.agg (setZ IntKind.i64 ((0:Nat)+(↑(0:Nat):Int).toNat*Nat.succ (1:Nat)+(0:Nat)) (cellZ (crR f s (0:Nat) z_1).cells ((0:Nat)+(↑(0:Nat):Int).toNat*Nat.succ (1:Nat)+(0:Nat))+f.lo (↑z_1:Int).toNat) [i6 (cr0 f s f.lo (0:Nat) z_1),i6 (cr0 f s f.hi (0:Nat) z_1),i6 (cr1 f s f.lo (0:Nat) z_1),i6 (cr1 f s f.hi (0:Nat) z_1)] (0:Nat)))).f (0:Nat)).cells ((0:Nat)+(↑(0:Nat):Int).toNat*(2:Nat)+(1:Nat))+f.5 (↑z_1:Int).toNat else if (0:Nat)+(↑(0:Nat):Int).toNat*(2:Nat)+(0:Nat)=(0:Nat) then cellZ (crR f s (0:Nat) z_1).cells ((0:Nat)+(↑(0:Nat):Int).toNat*(2:Nat)+(0:Nat))+f.4 (↑z_1:Int).toNat else cr0 f s f.lo (0:Nat) z_1)=cr0 f s f.lo (0:Nat) z_2∧(if (0 :
Nat)+(↑(0:Nat):Int).toNat*(2:Nat)+(1:Nat)=(0:Nat)+(1:Nat) then cellZ ((SRow.v (4:Nat) (SV.agg (setZ IntKind.i64 ((0:Nat)+(↑(0:Nat):Int).toNat*Nat.succ (1:Nat)+(0:Nat)) (cellZ (crR f s (0:Nat) z_1).cells ((0:Nat)+(↑(0:Nat):Int).toNat*Nat.succ (1:Nat)+(0:Nat))+f.lo (↑z_1:Int).toNat) [i6 (cr0 f s f.lo (0:Nat) z_1),i6 (cr0 f s f.hi (0:Nat) z_1),i6 (cr1 f s f.lo (0:Nat) z_1),i6 (cr1 f s f.hi (0:Nat) z_1)] (0:Nat)))).f (0:Nat)).cells ((0:Nat)+(↑(0:Nat):Int).toNat*(2:Nat)+(1:Nat))+f.5 (↑z_1:Int).toNat else if (0:Nat)+(↑(0:Nat):Int).toNat*(2:Nat)+(0:Nat)=(0:Nat)+(1:Nat) then cellZ (crR f s (0:Nat) z_1).cells ((0:Nat)+(↑(0:Nat):Int).toNat*(2:Nat)+(0:Nat))+f.4 (↑z_1:Int).toNat else cr0 f s f.hi (0:Nat) z_1)=cr0 f s f.hi (0:Nat) z_2∧(if (0:Nat) +
(↑(0:Nat):Int).toNat*(2:Nat)+(1:Nat)=(0:Nat)+(1:Nat)+(1:Nat) then cellZ ((SRow.v (4:Nat) (SV.agg (setZ IntKind.i64 ((0:Nat)+(↑(0:Nat):Int).toNat*Nat.succ (1:Nat)+(0:Nat)) (cellZ (crR f s (0:Nat) z_1).cells ((0:Nat)+(↑(0:Nat):Int).toNat*Nat.succ (1:Nat)+(0:Nat))+f.lo (↑z_1:Int).toNat) [i6 (cr0 f s f.lo (0:Nat) z_1),i6 (cr0 f s f.hi (0:Nat) z_1),i6 (cr1 f s f.lo (0:Nat) z_1),i6 (cr1 f s f.hi (0:Nat) z_1)] (0:Nat)))).f (0:Nat)).cells ((0:Nat)+(↑(0:Nat):Int).toNat*(2:Nat)+(1:Nat))+f.5 (↑z_1:Int).toNat else if (0:Nat)+(↑(0:Nat):Int).toNat*(2:Nat)+(0:Nat)=(0:Nat)+(1:Nat)+(1:Nat) then cellZ (crR f s (0:Nat) z_1).cells ((0:Nat)+(↑(0:Nat):Int).toNat*(2:Nat)+(0:Nat))+f.4 (↑z_1:Int).toNat else cr1 f s f.lo (0:Nat) z_1)=cr1 f s f.lo (0:Nat) z_2 ∧
(if (0:Nat)+(↑(0:Nat):Int).toNat*(2:Nat)+(1:Nat)=(0:Nat)+(1:Nat)+(1:Nat)+(1:Nat) then cellZ ((SRow.v (4:Nat) (SV.agg (setZ IntKind.i64 ((0:Nat)+(↑(0:Nat):Int).toNat*Nat.succ (1:Nat)+(0:Nat)) (cellZ (crR f s (0:Nat) z_1).cells ((0:Nat)+(↑(0:Nat):Int).toNat*Nat.succ (1:Nat)+(0:Nat))+f.lo (↑z_1:Int).toNat) [i6 (cr0 f s f.lo (0:Nat) z_1),i6 (cr0 f s f.hi (0:Nat) z_1),i6 (cr1 f s f.lo (0:Nat) z_1),i6 (cr1 f s f.hi (0:Nat) z_1)] (0:Nat)))).f (0:Nat)).cells ((0:Nat)+(↑(0:Nat):Int).toNat*(2:Nat)+(1:Nat))+f.5 (↑z_1:Int).toNat else if (0:Nat)+(↑(0:Nat):Int).toNat*(2:Nat)+(0:Nat)=(0:Nat)+(1:Nat)+(1:Nat)+(1:Nat) then cellZ (crR f s (0:Nat) z_1).cells ((0:Nat)+(↑(0:Nat):Int).toNat*(2:Nat)+(0:Nat))+f.4 (↑z_1:Int).toNat else cr1 f s f.hi (0 :
Nat) z_1)=cr1 f s f.hi (0:Nat) z_2∧True)∧(¬Bool.rec false (!hb (↑s:Int).toNat (f.fr (↑z_1:Int).toNat)) (hb (↑s:Int).toNat (f.to (↑z_1:Int).toNat))=true→rI ((↑z_1:Int)+(1:Int))∧∃ z_2,(z_2≤f.1∧(↑z:Int).toNat=(0:Nat))∧f.1 - z_2<f.1 - z_1∧rE (↑s:Int)∧f.1=f.1∧(∀ (i:Nat),i<f.1→rE ((f.el i).den)∧True∧True∧True∧True∧True)∧rE (0:Nat)∧rE (0:Nat)∧rE (0:Nat)∧rE (0:Nat)∧rE (↑(0:Nat):Int)∧rE (Fn.func gtakes)∧rE (↑s:Int)∧rE (Fn.func gtakes)∧rE (↑s:Int)∧rE (Fn.func ggives)∧rE (↑s:Int)∧rE (↑(0:Nat):Int)∧f.1=f.1∧(∀ (i:Nat),i<f.1→rE ((f.el i).den)∧True∧True∧True∧True∧True)∧rE (↑f.1:Int)∧(↑z_1:Int)+(1:Int)=(↑z_2:Int)∧rE (0:Int)∧rE (0:Int)∧rE (0:Int)∧rE (0:Int)∧cr0 f s f.lo (0:Nat) z_1=cr0 f s f.lo (0:Nat) z_2∧cr0 f s f.hi (0 :
Nat) z_1=cr0 f s f.hi (0:Nat) z_2∧cr1 f s f.lo (0:Nat) z_1=cr1 f s f.lo (0:Nat) z_2∧cr1 f s f.hi (0:Nat) z_1=cr1 f s f.hi (0:Nat) z_2∧True))∧(¬(↑z_1:Int)<(↑f.1:Int)→rI ((↑(0:Nat):Int)+(1:Int))∧∃ z_2,z_2≤(2:Nat)∧(2:Nat) - z_2<(2:Nat) - z∧rE (↑s:Int)∧f.1=f.1∧(∀ (i:Nat),i<f.1→rE ((f.el i).den)∧True∧True∧True∧True∧True)∧rE (0:Nat)∧rE (0:Nat)∧rE (0:Nat)∧rE (0:Nat)∧rE (Fn.func gtakes)∧rE (↑s:Int)∧rE (Fn.func ggives)∧rE (↑s:Int)∧(↑(0:Nat):Int)+(1:Int)=(↑z_2:Int)∧rE (0:Int)∧rE (0:Int)∧rE (0:Int)∧rE (0:Int)∧cr0 f s f.lo (0:Nat) z_1=cr0 f s f.lo z_2 (0:Nat)∧cr0 f s f.hi (0:Nat) z_1=cr0 f s f.hi z_2 (0:Nat)∧cr1 f s f.lo (0:Nat) z_1=cr1 f s f.lo z_2 (0:Nat)∧cr1 f s f.hi (0:Nat) z_1=cr1 f s f.hi z_2 (0:Nat)∧True))∧∀ (z_1 :
Nat),z_1≤f.1∧(↑z:Int).toNat=(1:Nat)→((↑z_1:Int)<(↑f.1:Int)→(0:Int)≤(↑z_1:Int)∧(↑z_1:Int)<(↑f.1:Int)∧(0:Nat)<(1:Nat)∧(((0:Int)≤(↑s:Int)∧(↑s:Int)≤(1000:Int))∧((0:Int)≤f.2 (↑z_1:Int).toNat∧f.2 (↑z_1:Int).toNat<(64:Int))∧(0:Int)≤f.3 (↑z_1:Int).toNat∧f.3 (↑z_1:Int).toNat<(64:Int))∧(Bool.rec false (!hb (↑s:Int).toNat (f.to (↑z_1:Int).toNat)) (hb (↑s:Int).toNat (f.fr (↑z_1:Int).toNat))=true→(0:Int)≤(↑(1:Nat):Int)∧(↑(1:Nat):Int)<(↑(2:Nat):Int)∧(0:Nat)<(1:Nat)∧(0:Nat)+(↑(1:Nat):Int).toNat*(2:Nat)+(0:Nat)<(4:Nat)∧(0:Nat)<(1:Nat)∧rI (cellZ (crR f s (1:Nat) z_1).cells ((0:Nat)+(↑(1:Nat):Int).toNat*(2:Nat)+(0:Nat))+f.4 (↑z_1:Int).toNat)∧(0:Int)≤(↑(1:Nat):Int)∧(↑(1:Nat):Int)<(↑(2:Nat):Int)∧(0
: Nat)+(↑(1:Nat):Int).toNat*(2:Nat)+(0:Nat)<(4:Nat)∧(0:Int)≤(↑(1:Nat):Int)∧(↑(1:Nat):Int)<(↑(2:Nat):Int)∧(0:Nat)<(1:Nat)∧(0:Nat)+(↑(1:Nat):Int).toNat*(2:Nat)+(1:Nat)<(4:Nat)∧(0:Nat)<(1:Nat)∧rI (cellZ ((SRow.v (4:Nat) (SV.agg (setZ IntKind.i64 ((0:Nat)+(↑(1:Nat):Int).toNat*Nat.succ (1:Nat)+(0:Nat)) (cellZ (crR f s (1:Nat) z_1).cells ((0:Nat)+(↑(1:Nat):Int).toNat*Nat.succ (1:Nat)+(0:Nat))+f.lo (↑z_1:Int).toNat) [i6 (cr0 f s f.lo (1:Nat) z_1),i6 (cr0 f s f.hi (1:Nat) z_1),i6 (cr1 f s f.lo (1:Nat) z_1),i6 (cr1 f s f.hi (1:Nat) z_1)] (0:Nat)))).f (0:Nat)).cells ((0:Nat)+(↑(1:Nat):Int).toNat*(2:Nat)+(1:Nat))+f.5 (↑z_1:Int).toNat)∧(0:Int)≤(↑(1:Nat):Int)∧(↑(1:Nat):Int)<(↑(2:Nat):Int)∧(0:Nat)+(↑(1:Nat) :
Int).toNat*(2:Nat)+(1:Nat)<(4:Nat)∧rI ((↑z_1:Int)+(1:Int))∧∃ z_2,(z_2≤f.1∧(↑z:Int).toNat=(1:Nat))∧f.1 - z_2<f.1 - z_1∧rE (↑s:Int)∧f.1=f.1∧(∀ (i:Nat),i<f.1→rE ((f.el i).den)∧True∧True∧True∧True∧True)∧rE (0:Nat)∧rE (0:Nat)∧rE (0:Nat)∧rE (0:Nat)∧rE (↑(1:Nat):Int)∧rE (Fn.func ggives)∧rE (↑s:Int)∧rE (Fn.func gtakes)∧rE (↑s:Int)∧rE (Fn.func ggives)∧rE (↑s:Int)∧rE (↑(1:Nat):Int)∧f.1=f.1∧(∀ (i:Nat),i<f.1→rE ((f.el i).den)∧True∧True∧True∧True∧True)∧rE (↑f.1:Int)∧(↑z_1:Int)+(1:Int)=(↑z_2:Int)∧rE (0:Int)∧rE (0:Int)∧rE (0:Int)∧rE (0:Int)∧(if (0:Nat)+(↑(1:Nat):Int).toNat*(2:Nat)+(1:Nat)=(0:Nat) then cellZ ((SRow.v (4:Nat) (SV.agg (setZ IntKind.i64 ((0:Nat)+(↑(1:Nat):Int).toNat*Nat.succ (1:Nat)+(0 :
Nat)) (cellZ (crR f s (1:Nat) z_1).cells ((0:Nat)+(↑(1:Nat):Int).toNat*Nat.succ (1:Nat)+(0:Nat))+f.lo (↑z_1:Int).toNat) [i6 (cr0 f s f.lo (1:Nat) z_1),i6 (cr0 f s f.hi (1:Nat) z_1),i6 (cr1 f s f.lo (1:Nat) z_1),i6 (cr1 f s f.hi (1:Nat) z_1)] (0:Nat)))).f (0:Nat)).cells ((0:Nat)+(↑(1:Nat):Int).toNat*(2:Nat)+(1:Nat))+f.5 (↑z_1:Int).toNat else if (0:Nat)+(↑(1:Nat):Int).toNat*(2:Nat)+(0:Nat)=(0:Nat) then cellZ (crR f s (1:Nat) z_1).cells ((0:Nat)+(↑(1:Nat):Int).toNat*(2:Nat)+(0:Nat))+f.4 (↑z_1:Int).toNat else cr0 f s f.lo (1:Nat) z_1)=cr0 f s f.lo (1:Nat) z_2∧(if (0:Nat)+(↑(1:Nat):Int).toNat*(2:Nat)+(1:Nat)=(0:Nat)+(1:Nat) then cellZ ((SRow.v (4:Nat) (SV.agg (setZ IntKind.i64 ((0:Nat)+(↑(1:Nat):Int).toNat*Nat.succ (1:Nat)+(0:Nat)) (cellZ (crR f
s (1:Nat) z_1).cells ((0:Nat)+(↑(1:Nat):Int).toNat*Nat.succ (1:Nat)+(0:Nat))+f.lo (↑z_1:Int).toNat) [i6 (cr0 f s f.lo (1:Nat) z_1),i6 (cr0 f s f.hi (1:Nat) z_1),i6 (cr1 f s f.lo (1:Nat) z_1),i6 (cr1 f s f.hi (1:Nat) z_1)] (0:Nat)))).f (0:Nat)).cells ((0:Nat)+(↑(1:Nat):Int).toNat*(2:Nat)+(1:Nat))+f.5 (↑z_1:Int).toNat else if (0:Nat)+(↑(1:Nat):Int).toNat*(2:Nat)+(0:Nat)=(0:Nat)+(1:Nat) then cellZ (crR f s (1:Nat) z_1).cells ((0:Nat)+(↑(1:Nat):Int).toNat*(2:Nat)+(0:Nat))+f.4 (↑z_1:Int).toNat else cr0 f s f.hi (1:Nat) z_1)=cr0 f s f.hi (1:Nat) z_2∧(if (0:Nat)+(↑(1:Nat):Int).toNat*(2:Nat)+(1:Nat)=(0:Nat)+(1:Nat)+(1:Nat) then cellZ ((SRow.v (4:Nat) (SV.agg (setZ IntKind.i64 ((0:Nat)+(↑(1:Nat):Int).toNat*Nat.succ (1:Nat)+(0:Nat)) (cellZ
(crR f s (1:Nat) z_1).cells ((0:Nat)+(↑(1:Nat):Int).toNat*Nat.succ (1:Nat)+(0:Nat))+f.lo (↑z_1:Int).toNat) [i6 (cr0 f s f.lo (1:Nat) z_1),i6 (cr0 f s f.hi (1:Nat) z_1),i6 (cr1 f s f.lo (1:Nat) z_1),i6 (cr1 f s f.hi (1:Nat) z_1)] (0:Nat)))).f (0:Nat)).cells ((0:Nat)+(↑(1:Nat):Int).toNat*(2:Nat)+(1:Nat))+f.5 (↑z_1:Int).toNat else if (0:Nat)+(↑(1:Nat):Int).toNat*(2:Nat)+(0:Nat)=(0:Nat)+(1:Nat)+(1:Nat) then cellZ (crR f s (1:Nat) z_1).cells ((0:Nat)+(↑(1:Nat):Int).toNat*(2:Nat)+(0:Nat))+f.4 (↑z_1:Int).toNat else cr1 f s f.lo (1:Nat) z_1)=cr1 f s f.lo (1:Nat) z_2∧(if (0:Nat)+(↑(1:Nat):Int).toNat*(2:Nat)+(1:Nat)=(0:Nat)+(1:Nat)+(1:Nat)+(1:Nat) then cellZ ((SRow.v (4:Nat) (SV.agg (setZ IntKind.i64 ((0:Nat)+(↑(1:Nat):Int).toNat*Nat.succ
(1:Nat)+(0:Nat)) (cellZ (crR f s (1:Nat) z_1).cells ((0:Nat)+(↑(1:Nat):Int).toNat*Nat.succ (1:Nat)+(0:Nat))+f.lo (↑z_1:Int).toNat) [i6 (cr0 f s f.lo (1:Nat) z_1),i6 (cr0 f s f.hi (1:Nat) z_1),i6 (cr1 f s f.lo (1:Nat) z_1),i6 (cr1 f s f.hi (1:Nat) z_1)] (0:Nat)))).f (0:Nat)).cells ((0:Nat)+(↑(1:Nat):Int).toNat*(2:Nat)+(1:Nat))+f.5 (↑z_1:Int).toNat else if (0:Nat)+(↑(1:Nat):Int).toNat*(2:Nat)+(0:Nat)=(0:Nat)+(1:Nat)+(1:Nat)+(1:Nat) then cellZ (crR f s (1:Nat) z_1).cells ((0:Nat)+(↑(1:Nat):Int).toNat*(2:Nat)+(0:Nat))+f.4 (↑z_1:Int).toNat else cr1 f s f.hi (1:Nat) z_1)=cr1 f s f.hi (1:Nat) z_2∧True)∧(¬Bool.rec false (!hb (↑s:Int).toNat (f.to (↑z_1:Int).toNat)) (hb (↑s:Int).toNat (f.fr (↑z_1:Int).toNat))=true→rI ((↑z_1:Int)+(1:Int))∧∃ z_2,(z_2 ≤
f.1∧(↑z:Int).toNat=(1:Nat))∧f.1 - z_2<f.1 - z_1∧rE (↑s:Int)∧f.1=f.1∧(∀ (i:Nat),i<f.1→rE ((f.el i).den)∧True∧True∧True∧True∧True)∧rE (0:Nat)∧rE (0:Nat)∧rE (0:Nat)∧rE (0:Nat)∧rE (↑(1:Nat):Int)∧rE (Fn.func ggives)∧rE (↑s:Int)∧rE (Fn.func gtakes)∧rE (↑s:Int)∧rE (Fn.func ggives)∧rE (↑s:Int)∧rE (↑(1:Nat):Int)∧f.1=f.1∧(∀ (i:Nat),i<f.1→rE ((f.el i).den)∧True∧True∧True∧True∧True)∧rE (↑f.1:Int)∧(↑z_1:Int)+(1:Int)=(↑z_2:Int)∧rE (0:Int)∧rE (0:Int)∧rE (0:Int)∧rE (0:Int)∧cr0 f s f.lo (1:Nat) z_1=cr0 f s f.lo (1:Nat) z_2∧cr0 f s f.hi (1:Nat) z_1=cr0 f s f.hi (1:Nat) z_2∧cr1 f s f.lo (1:Nat) z_1=cr1 f s f.lo (1:Nat) z_2∧cr1 f s f.hi (1:Nat) z_1=cr1 f s f.hi (1:Nat) z_2∧True))∧(¬(↑z_1:Int)<(↑f.1:Int)→rI ((↑(1:Nat):Int)
+ (1:Int))∧∃ z_2,z_2≤(2:Nat)∧(2:Nat) - z_2<(2:Nat) - z∧rE (↑s:Int)∧f.1=f.1∧(∀ (i:Nat),i<f.1→rE ((f.el i).den)∧True∧True∧True∧True∧True)∧rE (0:Nat)∧rE (0:Nat)∧rE (0:Nat)∧rE (0:Nat)∧rE (Fn.func gtakes)∧rE (↑s:Int)∧rE (Fn.func ggives)∧rE (↑s:Int)∧(↑(1:Nat):Int)+(1:Int)=(↑z_2:Int)∧rE (0:Int)∧rE (0:Int)∧rE (0:Int)∧rE (0:Int)∧cr0 f s f.lo (1:Nat) z_1=cr0 f s f.lo z_2 (0:Nat)∧cr0 f s f.hi (1:Nat) z_1=cr0 f s f.hi z_2 (0:Nat)∧cr1 f s f.lo (1:Nat) z_1=cr1 f s f.lo z_2 (0:Nat)∧cr1 f s f.hi (1:Nat) z_1=cr1 f s f.hi z_2 (0:Nat)∧True)))∧(¬(↑z:Int)<(2:Int)→(0:Nat)<(1:Nat)∧(0:Nat)<(1:Nat)∧cr0 f s f.lo z (0:Nat)=IL f s∧cr0 f s f.hi z (0:Nat)=IH f s∧cr1 f s f.lo z (0:Nat)=OL f s∧cr1 f s f.hi z (0:Nat)=OH f s∧True)):=by kernel_rfl
theorem loG_vc (a:Int) (b:Int):loG a b =
((0:Nat)<(1:Nat)∧a=a∧True):=by kernel_rfl
theorem hiG_vc (a:Int) (b:Int):hiG a b =
((0:Nat)<(1:Nat)∧b=b∧True):=by kernel_rfl
theorem maxG_vc (a:Int) (b:Int):maxG a b =
(max a b=max a b∧True):=by kernel_rfl
theorem minG_vc (a:Int) (b:Int):minG a b =
(min a b=min a b∧True):=by kernel_rfl
theorem leaG_vc :leaG  =
((0:Nat)<(1:Nat) ∧
 Value.func (Fn.func (44:Nat)) #[] #[]=Value.func (Fn.func glo) #[] #[] ∧
  Value.func (Fn.func (45:Nat)) #[] #[]=Value.func (Fn.func ghi) #[] #[] ∧
   Value.func (Fn.func (46:Nat)) #[] #[]=Value.func (Fn.func gmax) #[] #[]∧True):=by kernel_rfl
theorem greG_vc :greG  =
((0:Nat)<(1:Nat) ∧
 Value.func (Fn.func (45:Nat)) #[] #[]=Value.func (Fn.func ghi) #[] #[] ∧
  Value.func (Fn.func (44:Nat)) #[] #[]=Value.func (Fn.func glo) #[] #[] ∧
   Value.func (Fn.func (50:Nat)) #[] #[]=Value.func (Fn.func gmin) #[] #[]∧True):=by kernel_rfl
end Go.Proofs.Ytmjbflifegmmnaa

set_option maxRecDepth 100000
namespace Go.Proofs.Ytmjbflifegmmnaa
open Go Go.Lg
attribute [local irreducible] funS bodyH
section
variable (a b c d v:Int)
theorem cz0:cellZ [i6 a,i6 b,i6 c,i6 d] 0=a:=rfl
theorem cz1:cellZ [i6 a,i6 b,i6 c,i6 d] 1=b:=rfl
theorem cz2:cellZ [i6 a,i6 b,i6 c,i6 d] 2=c:=rfl
theorem cz3:cellZ [i6 a,i6 b,i6 c,i6 d] 3=d:=rfl
theorem sz0:setZ .i64 0 v [i6 a,i6 b,i6 c,i6 d] 0=[i6 v,i6 b,i6 c,i6 d]:=by simp [setZ,numZ]
theorem sz2:setZ .i64 2 v [i6 a,i6 b,i6 c,i6 d] 0=[i6 a,i6 b,i6 v,i6 d]:=by simp [setZ,numZ]
end
theorem wrapN_small {n:Nat} (h:n<2 ^ 63):IntKind.wrap .i64 (n:Int)=n:=by
 unfold IntKind.wrap
 have e:IntKind.bits .i64=64:=rfl
 simp only [e]
 have:((n:Int) % 2 ^ 64)=n:=by omega
 rw [this]
 have e2:IntKind.signed .i64=true:=rfl
 simp only [e2,Bool.true_and,decide_eq_true_eq]
 split <;> omega
theorem ofInt_nat {s:Int} (h0:0≤s) (h:s<2 ^ 63):(BitVec.ofInt 64 s).toNat=s.toNat:=by
 rw [BitVec.toNat_ofInt]
 omega
theorem bit_tb {n s:Int} (h0:0≤s) (h:s<2 ^ 63):bitA .i64 (s.fdiv (shP n)) 1=1↔s.toNat.testBit n.toNat=true:=by
 unfold bitA shP
 have e:IntKind.bits .i64=64:=rfl
 rw [e]
 have hp:(2:Int) ^ n.toNat=((2 ^ n.toNat:Nat):Int):=by simp
 have h1:s.fdiv (2 ^ n.toNat)=((s.toNat / 2 ^ n.toNat:Nat):Int):=by
  rw [Int.fdiv_eq_ediv_of_nonneg _ (by rw [hp]; exact Int.natCast_nonneg _),hp,Int.natCast_ediv,Int.toNat_of_nonneg h0]
 have hq:s.toNat / 2 ^ n.toNat≤s.toNat:=Nat.div_le_self _ _
 have h2:(BitVec.ofInt 64 (s.fdiv (2 ^ n.toNat))).toNat=s.toNat / 2 ^ n.toNat:=by
  rw [h1,ofInt_nat (Int.natCast_nonneg _) (by omega),Int.toNat_natCast]
 have h3:(BitVec.ofInt 64 1).toNat=1:=by decide
 rw [BitVec.toNat_and,h2,h3,Nat.and_one_is_mod,wrapN_small (n:=s.toNat / 2 ^ n.toNat % 2) (by omega),Nat.testBit_eq_decide_div_mod_eq]
 simp only [decide_eq_true_eq]
 omega
theorem has_true {s x:Int} (hs:0≤s∧s≤1000) (hx:0≤x∧x<64):hasG s x:=by
 rw [hasG_vc]
 exact ⟨by omega,by rw [bit_tb hs.1 (by omega)]; rfl,trivial⟩
theorem tak_true {s a b c d:Int} (hs:0≤s∧s≤1000) (ha:0≤a∧a<64) (hb':0≤b∧b<64):takG s a b c d:=by
 rw [takG_vc]
 refine ⟨by omega,⟨hs,hb'⟩,fun h=>⟨by omega,⟨hs,ha⟩,?_,trivial⟩,fun h=>⟨?_,trivial⟩⟩
 ·rw [h]; simp
 ·have:hb s.toNat b=false:=by simpa using h
  rw [this]
theorem giv_true {s a b c d:Int} (hs:0≤s∧s≤1000) (ha:0≤a∧a<64) (hb':0≤b∧b<64):givG s a b c d:=by
 rw [givG_vc]
 refine ⟨by omega,⟨hs,ha⟩,fun h=>⟨by omega,⟨hs,hb'⟩,?_,trivial⟩,fun h=>⟨?_,trivial⟩⟩
 ·rw [h]; simp
 ·have:hb s.toNat a=false:=by simpa using h
  rw [this]
structure okF (f:Fl):Prop where
 n:f.n≤1000
 fr:∀ i,i<f.n→0≤f.fr i∧f.fr i<64
 to:∀ i,i<f.n→0≤f.to i∧f.to i<64
 lo:∀ i,i<f.n→-2147483648≤f.lo i∧f.lo i≤2147483648
 hi:∀ i,i<f.n→-2147483648≤f.hi i∧f.hi i≤2147483648
theorem sm_y {p:Nat→Bool} {g:Nat→Int} {k:Nat} (h:p k=true):sm p g (k+1)=sm p g k+g k:=by simp [sm,h]
theorem sm_n {p:Nat→Bool} {g:Nat→Int} {k:Nat} (h:¬ p k=true):sm p g (k+1)=sm p g k:=by
 have:p k=false:=by simpa using h
 simp [sm,this]
theorem sm_le {p:Nat→Bool} {g:Nat→Int} {n:Nat} (hg:∀ i,i<n→-2147483648≤g i∧g i≤2147483648):∀ k:Nat,k≤n→-2147483648*(k:Int)≤sm p g k∧sm p g k≤2147483648*(k:Int)
 | 0,_=>by simp [sm]
 | k+1,h=>by
  have ih:=sm_le (p:=p) hg k (by omega)
  have:=hg k (by omega)
  by_cases hp:p k=true
  ·rw [sm_y hp]; omega
  ·rw [sm_n hp]; omega
theorem band_rec (a b:Bool):Bool.rec (motive:=fun _=>Bool) false b a=(a && b):=by cases a <;> rfl
theorem cro_true {f:Fl} {s:Nat} (hs:s≤1000) (hf:okF f):croG f s:=by
 rw [croG_vc]
 simp only [rI,rE,tt3,tt4,tt5,tt13,tt14,and_true,true_and,Nat.zero_lt_one,and_self,implies_true,Int.toNat_natCast,Nat.zero_add,Nat.add_zero,Nat.one_mul,Nat.mul_one,Classical.not_not,iff_self,Bool.false_eq_true,imp_false,and_imp,true_implies,forall_const,Nat.reduceSucc,Nat.reduceMul,Nat.zero_mul,Nat.reduceAdd,crR,SV.cells,SRow.v,cz0,cz1,cz2,cz3,sz0,sz2,band_rec,if_true,if_false,Nat.reduceEqDiff,Nat.one_ne_zero,reduceCtorEq,cr0,cr1,Nat.reduceLT,sm]
 have hn:=hf.n
 have L:∀ (p:Nat→Bool) (k:Nat),k≤f.n→-2147483648*(k:Int)≤sm p f.lo k∧sm p f.lo k≤2147483648*(k:Int):=fun p k hk=>sm_le hf.lo k hk
 have H:∀ (p:Nat→Bool) (k:Nat),k≤f.n→-2147483648*(k:Int)≤sm p f.hi k∧sm p f.hi k≤2147483648*(k:Int):=fun p k hk=>sm_le hf.hi k hk
 have I2:∀ (A B C:Int),(if (2:Nat)=0 then A else if (2:Nat)=1 then B else C)=C:=fun A B C=>rfl
 refine ⟨⟨0,by omega,rfl,rfl,rfl,rfl,rfl⟩,fun z hz=>⟨fun hl=>⟨by omega,hl,by omega,fun h0=>⟨?_,?_,?_⟩,fun h0=>⟨?_,?_,?_⟩⟩,fun hl=>?_⟩⟩
 ·subst h0; exact ⟨0,⟨by omega,rfl⟩,rfl,rfl,rfl,rfl,rfl,rfl,rfl⟩
 rotate_left 2
 ·subst h0; exact ⟨0,⟨by omega,rfl⟩,rfl,rfl,rfl,rfl,rfl,rfl,rfl⟩
 rotate_left 2
 ·have:z=2:=by omega
  subst this
  exact ⟨rfl,rfl,rfl,rfl⟩
 all_goals
  intro k hk hy
  have l1:=L (tkB f s) k hk
  have l2:=L (gvB f s) k hk
  have h1:=H (tkB f s) k hk
  have h2:=H (gvB f s) k hk
  refine ⟨fun hl=>?_,fun hl=>?_⟩
  ·have q1:=hf.fr k (by omega)
   have q2:=hf.to k (by omega)
   have q3:=hf.lo k (by omega)
   have q4:=hf.hi k (by omega)
   refine ⟨by omega,hl,⟨by omega,q1,q2⟩,fun hp=>?_,fun hp=>?_⟩
   ·first
    | exact ⟨by omega,by omega,by omega,by omega,by omega,by omega,by omega,by omega,by omega,by omega,by omega,k+1,⟨by omega,hy⟩,by omega,by omega,(sm_y (p:=tkB f s) hp).symm,(sm_y (p:=tkB f s) hp).symm⟩
    | exact ⟨by omega,by omega,by omega,by omega,by omega,by omega,by omega,by omega,by omega,by omega,by omega,k+1,⟨by omega,hy⟩,by omega,by omega,(sm_y (p:=gvB f s) hp).symm,(sm_y (p:=gvB f s) hp).symm⟩
   ·first
    | exact ⟨by omega,k+1,⟨by omega,hy⟩,by omega,by omega,(sm_n (p:=tkB f s) hp).symm,(sm_n (p:=tkB f s) hp).symm⟩
    | exact ⟨by omega,k+1,⟨by omega,hy⟩,by omega,by omega,(sm_n (p:=gvB f s) hp).symm,(sm_n (p:=gvB f s) hp).symm⟩
  ·have:k=f.n:=by omega
   subst this
   subst hy
   first
   | omega
   | exact ⟨by omega,1,by omega,by omega,rfl,rfl,rfl,rfl,rfl⟩
   | exact ⟨by omega,2,by omega,by omega,rfl,rfl,rfl,rfl,rfl⟩
end Go.Proofs.Ytmjbflifegmmnaa

namespace Go.Proofs.Ytmjbflifegmmnaa
open Go Go.Lg
structure okP (p:Pl):Prop where
 k:2≤p.k∧p.k≤8
 n:p.f.n≤16
 fr:∀ i,i<p.f.n→0≤p.f.fr i∧p.f.fr i<p.k
 to:∀ i,i<p.f.n→0≤p.f.to i∧p.f.to i<p.k
 ne:∀ i,i<p.f.n→¬ p.f.fr i=p.f.to i
 gas:∀ i,i<p.f.n→0≤p.f.lo i∧p.f.lo i≤p.f.hi i∧p.f.hi i≤1073741824
def pwk (k:Int):Nat:=2 ^ k.toNat
def bad (f:Fl) (s:Nat):Bool:=decide (OH f s<IL f s)
def Hof (p:Pl):Prop:=∀ s,s<pwk p.k→bad p.f s=false
def bnd (b:Bool) (f:Fl) (i s:Nat):Int:=bif b then OH f s - (IL f s - f.lo i) else OL f s - (IH f s - f.hi i)
def own (b:Bool) (f:Fl) (i:Nat):Int:=bif b then f.hi i else f.lo i
def tgt (b:Bool) (f:Fl) (i:Nat):Nat→Int
 | 0=>own b f i
 | j+1=>bif tkB f j i then (bif b then min (tgt b f i j) (bnd b f i j) else max (tgt b f i j) (bnd b f i j)) else tgt b f i j
def tgE (b:Bool) (p:Pl) (i:Nat):Int:=tgt b p.f i (pwk p.k)
def setF (f:Fl) (i:Nat) (x:Int):Fl:=⟨f.n,f.fr,f.to,fun j=>if j=i then x else f.lo j,fun j=>if j=i then x else f.hi j⟩
def setP (p:Pl) (i:Nat) (x:Int):Pl:=⟨p.k,setF p.f i x⟩
theorem bad_f {f:Fl} {s:Nat}:bad f s=false↔IL f s≤OH f s:=by unfold bad; rw [decide_eq_false_iff_not]; omega
theorem bad_t {f:Fl} {s:Nat}:bad f s=true↔OH f s<IL f s:=by unfold bad; rw [decide_eq_true_eq]
theorem sm_congr {p q:Nat→Bool} {g h:Nat→Int}:∀ {k:Nat},(∀ i,i<k→p i=q i∧(p i=true→g i=h i))→sm p g k=sm q h k
 | 0,_=>rfl
 | k+1,H=>by
  have ih:=sm_congr (p:=p) (q:=q) (g:=g) (h:=h) (k:=k) fun i hi=>H i (by omega)
  obtain ⟨h1,h2⟩:=H k (by omega)
  by_cases hp:p k=true
  ·rw [sm_y hp,sm_y (h1 ▸ hp),ih,h2 hp]
  ·rw [sm_n hp,sm_n (h1 ▸ hp),ih]
theorem sm_set {p:Nat→Bool} {g:Nat→Int} {i:Nat} {x:Int}:∀ k:Nat,sm p (fun j=>if j=i then x else g j) k=sm p g k+(if i<k∧p i=true then x - g i else 0)
 | 0=>by simp [sm]
 | k+1=>by
  have ih:=sm_set (p:=p) (g:=g) (i:=i) (x:=x) k
  by_cases hp:p k=true
  ·rw [sm_y hp,sm_y hp,ih]
   by_cases e:k=i
   ·subst e
    rw [if_neg (fun h=>Nat.lt_irrefl _ h.1),if_pos rfl,if_pos ⟨Nat.lt_succ_self _,hp⟩]; omega
   ·rw [if_neg e]
    have:(i<k∧p i=true)↔(i<k+1∧p i=true):=⟨fun h=>⟨by omega,h.2⟩,fun h=>⟨by omega,h.2⟩⟩
    simp only [this]; omega
  ·rw [sm_n hp,sm_n hp,ih]
   have:(i<k∧p i=true)↔(i<k+1∧p i=true):=⟨fun h=>⟨by omega,h.2⟩,fun h=>⟨by
    by_cases e:i=k
    ·subst e; exact absurd h.2 hp
    ·omega,h.2⟩⟩
   simp only [this]
theorem sm_mono {p:Nat→Bool} {g h:Nat→Int}:∀ {k:Nat},(∀ i,i<k→p i=true→g i≤h i)→sm p g k≤sm p h k
 | 0,_=>by simp [sm]
 | k+1,H=>by
  have ih:=sm_mono (p:=p) (g:=g) (h:=h) (k:=k) fun i hi=>H i (by omega)
  by_cases hp:p k=true
  ·have:=H k (by omega) hp
   rw [sm_y hp,sm_y hp]; omega
  ·rw [sm_n hp,sm_n hp]; exact ih
theorem IL_set {f:Fl} {i s:Nat} {x:Int} (hi:i<f.n):IL (setF f i x) s=IL f s+(if tkB f s i=true then x - f.lo i else 0):=by
 have h:=sm_set (p:=tkB f s) (g:=f.lo) (i:=i) (x:=x) f.n
 have:(i<f.n∧tkB f s i=true)↔tkB f s i=true:=⟨fun h=>h.2,fun h=>⟨hi,h⟩⟩
 simp only [this] at h
 exact h
theorem OH_set {f:Fl} {i s:Nat} {x:Int} (hi:i<f.n):OH (setF f i x) s=OH f s+(if gvB f s i=true then x - f.hi i else 0):=by
 have h:=sm_set (p:=gvB f s) (g:=f.hi) (i:=i) (x:=x) f.n
 have:(i<f.n∧gvB f s i=true)↔gvB f s i=true:=⟨fun h=>h.2,fun h=>⟨hi,h⟩⟩
 simp only [this] at h
 exact h
theorem tk_gv {f:Fl} {s i:Nat} (h:tkB f s i=true):¬ gvB f s i=true:=by
 unfold tkB gvB at *
 revert h
 cases hb s (f.to i) <;> cases hb s (f.fr i) <;> simp
def cmpl (k:Int) (s:Nat):Nat:=pwk k - (s+1)
theorem pwk_pos (k:Int):0<pwk k:=Nat.pow_pos (by omega)
theorem cmpl_lt {k:Int} (s:Nat):cmpl k s<pwk k:=by
 have:=pwk_pos k
 unfold cmpl; omega
theorem cmpl_cmpl {k:Int} {s:Nat} (hs:s<pwk k):cmpl k (cmpl k s)=s:=by unfold cmpl; omega
theorem hb_cmpl {k:Int} {s:Nat} (hs:s<pwk k) {x:Int} (h0:0≤x) (hx:x<k):hb (cmpl k s) x=!hb s x:=by
 unfold hb cmpl pwk
 rw [Nat.testBit_two_pow_sub_succ hs]
 have:decide (x.toNat<k.toNat)=true:=by rw [decide_eq_true_eq]; omega
 rw [this]; rfl
theorem tk_cmpl {p:Pl} (hp:okP p) {s i:Nat} (hs:s<pwk p.k) (hi:i<p.f.n):tkB p.f (cmpl p.k s) i=gvB p.f s i∧gvB p.f (cmpl p.k s) i=tkB p.f s i:=by
 have h1:=hp.fr i hi
 have h2:=hp.to i hi
 unfold tkB gvB
 rw [hb_cmpl hs h1.1 h1.2,hb_cmpl hs h2.1 h2.2]
 cases hb s (p.f.to i) <;> cases hb s (p.f.fr i) <;> simp
theorem IL_cmpl {p:Pl} (hp:okP p) {s:Nat} (hs:s<pwk p.k):IL p.f (cmpl p.k s)=OL p.f s∧OH p.f (cmpl p.k s)=IH p.f s :=
 ⟨sm_congr fun i hi=>⟨(tk_cmpl hp hs hi).1,fun _=>rfl⟩,sm_congr fun i hi=>⟨(tk_cmpl hp hs hi).2,fun _=>rfl⟩⟩
theorem tgt_lo {f:Fl} {i:Nat}:∀ j:Nat,own false f i≤tgt false f i j∧(∀ s,s<j→tkB f s i=true→bnd false f i s≤tgt false f i j)∧(tgt false f i j=own false f i∨∃ s,s<j∧tkB f s i=true∧tgt false f i j=bnd false f i s)
 | 0=>⟨by simp [tgt],fun s hs=>by omega,.inl rfl⟩
 | j+1=>by
  obtain ⟨h1,h2,h3⟩:=tgt_lo (f:=f) (i:=i) j
  by_cases ht:tkB f j i=true
  ·have e:tgt false f i (j+1)=max (tgt false f i j) (bnd false f i j):=by simp [tgt,ht]
   rw [e]
   refine ⟨by omega,fun s hs hts=>?_,?_⟩
   ·by_cases es:s=j
    ·subst es; omega
    ·have:=h2 s (by omega) hts; omega
   ·by_cases hc:bnd false f i j≤tgt false f i j
    ·have e2:max (tgt false f i j) (bnd false f i j)=tgt false f i j:=by omega
     rw [e2]
     exact h3.imp id fun ⟨s,a,b,c⟩=>⟨s,by omega,b,c⟩
    ·exact .inr ⟨j,by omega,ht,by omega⟩
  ·have e:tgt false f i (j+1)=tgt false f i j:=by
    have:tkB f j i=false:=by simpa using ht
    simp [tgt,this]
   rw [e]
   refine ⟨h1,fun s hs hts=>?_,h3.imp id fun ⟨s,a,b,c⟩=>⟨s,by omega,b,c⟩⟩
   by_cases es:s=j
   ·subst es; exact absurd hts ht
   ·exact h2 s (by omega) hts
theorem tgt_hi {f:Fl} {i:Nat}:∀ j:Nat,tgt true f i j≤own true f i∧(∀ s,s<j→tkB f s i=true→tgt true f i j≤bnd true f i s)∧(tgt true f i j=own true f i∨∃ s,s<j∧tkB f s i=true∧tgt true f i j=bnd true f i s)
 | 0=>⟨by simp [tgt],fun s hs=>by omega,.inl rfl⟩
 | j+1=>by
  obtain ⟨h1,h2,h3⟩:=tgt_hi (f:=f) (i:=i) j
  by_cases ht:tkB f j i=true
  ·have e:tgt true f i (j+1)=min (tgt true f i j) (bnd true f i j):=by simp [tgt,ht]
   rw [e]
   refine ⟨by omega,fun s hs hts=>?_,?_⟩
   ·by_cases es:s=j
    ·subst es; omega
    ·have:=h2 s (by omega) hts; omega
   ·by_cases hc:tgt true f i j≤bnd true f i j
    ·have e2:min (tgt true f i j) (bnd true f i j)=tgt true f i j:=by omega
     rw [e2]
     exact h3.imp id fun ⟨s,a,b,c⟩=>⟨s,by omega,b,c⟩
    ·exact .inr ⟨j,by omega,ht,by omega⟩
  ·have e:tgt true f i (j+1)=tgt true f i j:=by
    have:tkB f j i=false:=by simpa using ht
    simp [tgt,this]
   rw [e]
   refine ⟨h1,fun s hs hts=>?_,h3.imp id fun ⟨s,a,b,c⟩=>⟨s,by omega,b,c⟩⟩
   by_cases es:s=j
   ·subst es; exact absurd hts ht
   ·exact h2 s (by omega) hts
theorem bnd_f {p:Pl} (hp:okP p) {i s:Nat} (hs:s<pwk p.k):bnd false p.f i s=p.f.hi i - (OH p.f (cmpl p.k s) - IL p.f (cmpl p.k s)):=by
 obtain ⟨h1,h2⟩:=IL_cmpl hp hs
 rw [h1,h2]
 simp only [bnd,cond_false]; omega
theorem bnd_t {f:Fl} {i s:Nat}:bnd true f i s=f.lo i+(OH f s - IL f s):=by simp only [bnd,cond_true]; omega
theorem fix_hof {p:Pl} (hp:okP p) (h:Hof p) {i:Nat} (hi:i<p.f.n) (x:Int):((p.f.lo i≤x∧x≤p.f.hi i)∧Hof (setP p i x))↔(tgE false p i≤x∧x≤tgE true p i):=by
 obtain ⟨a1,a2,a3⟩:=tgt_lo (f:=p.f) (i:=i) (pwk p.k)
 obtain ⟨b1,b2,b3⟩:=tgt_hi (f:=p.f) (i:=i) (pwk p.k)
 have a1:p.f.lo i≤tgE false p i:=a1
 have b1:tgE true p i≤p.f.hi i:=b1
 constructor
 ·rintro ⟨hx,hh⟩
  constructor
  ·rcases a3 with e | ⟨s,hs,ht,e⟩
   ·show tgt false p.f i (pwk p.k)≤x
    rw [e]; exact hx.1
   ·show tgt false p.f i (pwk p.k)≤x
    rw [e,bnd_f hp hs]
    have hc:=hh (cmpl p.k s) (cmpl_lt s)
    rw [bad_f] at hc
    have g:gvB p.f (cmpl p.k s) i=true:=by rw [(tk_cmpl hp hs hi).2]; exact ht
    have t:¬ tkB p.f (cmpl p.k s) i=true:=fun t=>tk_gv t g
    have e1:=IL_set (f:=p.f) (s:=cmpl p.k s) (x:=x) hi
    have e2:=OH_set (f:=p.f) (s:=cmpl p.k s) (x:=x) hi
    rw [if_neg t] at e1
    rw [if_pos g] at e2
    have hc:IL (setF p.f i x) (cmpl p.k s)≤OH (setF p.f i x) (cmpl p.k s):=hc
    omega
  ·rcases b3 with e | ⟨s,hs,ht,e⟩
   ·show x≤tgt true p.f i (pwk p.k)
    rw [e]; exact hx.2
   ·show x≤tgt true p.f i (pwk p.k)
    rw [e,bnd_t]
    have hc:=hh s hs
    rw [bad_f] at hc
    have e1:=IL_set (f:=p.f) (s:=s) (x:=x) hi
    have e2:=OH_set (f:=p.f) (s:=s) (x:=x) hi
    rw [if_pos ht] at e1
    rw [if_neg (tk_gv ht)] at e2
    have hc:IL (setF p.f i x) s≤OH (setF p.f i x) s:=hc
    omega
 ·rintro ⟨h1,h2⟩
  refine ⟨by omega,fun s hs=>?_⟩
  have hs:s<pwk p.k:=hs
  rw [bad_f]
  have h0:=h s hs
  rw [bad_f] at h0
  show IL (setF p.f i x) s≤OH (setF p.f i x) s
  rw [IL_set hi,OH_set hi]
  by_cases ht:tkB p.f s i=true
  ·have hb2:=b2 s hs ht
   rw [bnd_t] at hb2
   have hb2:tgE true p i≤_:=hb2
   rw [if_pos ht,if_neg (tk_gv ht)]; omega
  ·rw [if_neg ht]
   by_cases hg:gvB p.f s i=true
   ·rw [if_pos hg]
    have ht':tkB p.f (cmpl p.k s) i=true:=by rw [(tk_cmpl hp hs hi).1]; exact hg
    have ha2:=a2 _ (cmpl_lt s) ht'
    rw [bnd_f hp (cmpl_lt s),cmpl_cmpl hs] at ha2
    have ha2:_≤tgE false p i:=ha2
    omega
   ·rw [if_neg hg]; omega
theorem hb_or (s t:Nat) (x:Int):hb (s ||| t) x=(hb s x || hb t x):=Nat.testBit_or ..
theorem hb_and (s t:Nat) (x:Int):hb (s &&& t) x=(hb s x && hb t x):=Nat.testBit_and ..
def lft (f:Fl) (s:Nat) (m:Nat):Int:=sm (gvB f s) f.hi m - sm (tkB f s) f.lo m
theorem lft_s (f:Fl) (s m:Nat):lft f s (m+1)=lft f s m+(bif gvB f s m then f.hi m else 0) - (bif tkB f s m then f.lo m else 0):=by simp only [lft,sm]; omega
theorem sub_mod {f:Fl} {s t:Nat}:∀ {m:Nat},(∀ i,i<m→f.lo i≤f.hi i)→lft f (s ||| t) m+lft f (s &&& t) m≤lft f s m+lft f t m
 | 0,_=>by simp [lft,sm]
 | m+1,h=>by
  have ih:=sub_mod (f:=f) (s:=s) (t:=t) (m:=m) fun i hi=>h i (by omega)
  have hm:=h m (by omega)
  simp only [lft_s,gvB,tkB,hb_or,hb_and]
  cases hb s (f.fr m) <;> cases hb s (f.to m) <;> cases hb t (f.fr m) <;> cases hb t (f.to m) <;> simp <;> omega
theorem sub_mod_i {f:Fl} {s t i:Nat} (h1:tkB f s i=true) (h2:gvB f t i=true):∀ {m:Nat},(∀ i,i<m→f.lo i≤f.hi i)→i<m→lft f (s ||| t) m+lft f (s &&& t) m+(f.hi i - f.lo i)≤lft f s m+lft f t m
 | 0,_,hi=>by omega
 | m+1,h,hi=>by
  have hm:=h m (by omega)
  by_cases e:i=m
  ·subst e
   have ih:=sub_mod (f:=f) (s:=s) (t:=t) (m:=i) fun j hj=>h j (by omega)
   unfold tkB at h1
   unfold gvB at h2
   simp only [lft_s,gvB,tkB,hb_or,hb_and]
   revert h1 h2
   cases hb s (f.fr i) <;> cases hb s (f.to i) <;> cases hb t (f.fr i) <;> cases hb t (f.to i) <;> simp <;> omega
  ·have ih:=sub_mod_i (f:=f) (s:=s) (t:=t) h1 h2 (m:=m) (fun j hj=>h j (by omega)) (by omega)
   simp only [lft_s,gvB,tkB,hb_or,hb_and]
   cases hb s (f.fr m) <;> cases hb s (f.to m) <;> cases hb t (f.fr m) <;> cases hb t (f.to m) <;> simp <;> omega
theorem tg_le {p:Pl} (hp:okP p) (h:Hof p) {i:Nat} (hi:i<p.f.n):tgE false p i≤tgE true p i:=by
 obtain ⟨a1,a2,a3⟩:=tgt_lo (f:=p.f) (i:=i) (pwk p.k)
 obtain ⟨b1,b2,b3⟩:=tgt_hi (f:=p.f) (i:=i) (pwk p.k)
 have hg:=hp.gas i hi
 have L:∀ s,s<pwk p.k→0≤lft p.f s p.f.n:=fun s hs=>by
  have:=h s hs
  rw [bad_f] at this
  have e:lft p.f s p.f.n=OH p.f s - IL p.f s:=rfl
  omega
 show tgt false p.f i (pwk p.k)≤tgt true p.f i (pwk p.k)
 have E:∀ s,OH p.f s - IL p.f s=lft p.f s p.f.n:=fun s=>rfl
 rcases a3 with e | ⟨s,hs,ht,e⟩ <;> rcases b3 with e' | ⟨t,ht',htt,e'⟩ <;> rw [e,e']
 ·exact hg.2.1
 ·rw [bnd_t,E]
  have:=L t ht'
  show p.f.lo i≤_
  omega
 ·rw [bnd_f hp hs,E]
  have:=L _ (cmpl_lt (k:=p.k) s)
  show _≤p.f.hi i
  omega
 ·rw [bnd_f hp hs,bnd_t,E,E]
  have g:gvB p.f (cmpl p.k s) i=true:=by rw [(tk_cmpl hp hs hi).2]; exact ht
  have c:=cmpl_lt (k:=p.k) s
  have:=sub_mod_i (f:=p.f) (s:=t) (t:=cmpl p.k s) htt g (m:=p.f.n) (fun j hj=>(hp.gas j hj).2.1) hi
  have l1:=L (t ||| cmpl p.k s) (Nat.or_lt_two_pow ht' c)
  have l2:=L (t &&& cmpl p.k s) (Nat.and_lt_two_pow _ c)
  omega
end Go.Proofs.Ytmjbflifegmmnaa

namespace Go.Proofs.Ytmjbflifegmmnaa
open Go Go.Lg
def netN (f : Fl) (x : Nat → Int) (v : Nat) (m : Nat) : Int := sm (fun i => decide (f.to i = v)) x m - sm (fun i => decide (f.fr i = v)) x m
structure IsT (p : Pl) (x : Nat → Int) : Prop where
  gas : ∀ i, i < p.f.n → p.f.lo i ≤ x i ∧ x i ≤ p.f.hi i
  net : ∀ v : Nat, (v : Int) < p.k → netN p.f x v p.f.n = 0
def netS (f : Fl) (x : Nat → Int) (s m : Nat) : Nat → Int
  | 0 => 0
  | v + 1 => netS f x s m v + bif hb s v then netN f x v m else 0
theorem net_s (f : Fl) (x : Nat → Int) (v m : Nat) : netN f x v (m + 1) = netN f x v m + (if f.to m = v then x m else 0) - (if f.fr m = v then x m else 0) := by
  simp only [netN, sm]
  by_cases h1 : f.to m = v <;> by_cases h2 : f.fr m = v <;> simp [h1, h2] <;> omega
theorem netS_s {f : Fl} {x : Nat → Int} {s m : Nat} (h1 : 0 ≤ f.to m) (h2 : 0 ≤ f.fr m) : ∀ K : Nat, netS f x s (m + 1) K = netS f x s m K + (if f.to m < K ∧ hb s (f.to m) = true then x m else 0) - (if f.fr m < K ∧ hb s (f.fr m) = true then x m else 0)
  | 0 => by
    have : ¬ f.to m < 0 := by omega
    have : ¬ f.fr m < 0 := by omega
    simp [netS, *]
  | v + 1 => by
    have ih := netS_s (f := f) (x := x) (s := s) (m := m) h1 h2 v
    simp only [netS, ih, net_s]
    have a : (f.to m < ((v + 1 : Nat) : Int)) ↔ (f.to m < (v : Int) ∨ f.to m = v) := by omega
    have b : (f.fr m < ((v + 1 : Nat) : Int)) ↔ (f.fr m < (v : Int) ∨ f.fr m = v) := by omega
    simp only [a, b]
    by_cases e1 : f.to m = v <;> by_cases e2 : f.fr m = v <;> cases hv : hb s (v : Int) <;> by_cases l1 : f.to m < (v : Int) <;> by_cases l2 : f.fr m < (v : Int) <;> simp [e1, e2, hv, l1, l2] <;> first | omega | skip
theorem netS_0 (f : Fl) (x : Nat → Int) (s : Nat) : ∀ K : Nat, netS f x s 0 K = 0
  | 0 => rfl
  | v + 1 => by
    have : netN f x v 0 = 0 := by simp [netN, sm]
    simp [netS, netS_0 f x s v, this]
theorem net_cut {p : Pl} (hp : okP p) (x : Nat → Int) (s : Nat) : ∀ m : Nat, m ≤ p.f.n → netS p.f x s m p.k.toNat = sm (tkB p.f s) x m - sm (gvB p.f s) x m
  | 0, _ => by simp [netS_0, sm]
  | m + 1, h => by
    have ih := net_cut hp x s m (by omega)
    have h1 := hp.fr m (by omega)
    have h2 := hp.to m (by omega)
    have hk := hp.k
    rw [netS_s h2.1 h1.1, ih]
    have a : p.f.to m < ((p.k.toNat : Nat) : Int) := by omega
    have b : p.f.fr m < ((p.k.toNat : Nat) : Int) := by omega
    simp only [sm, tkB, gvB, a, b, true_and]
    cases hb s (p.f.to m) <;> cases hb s (p.f.fr m) <;> simp <;> omega
theorem netS_z {f : Fl} {x : Nat → Int} {s m : Nat} : ∀ {K : Nat}, (∀ v, v < K → netN f x v m = 0) → netS f x s m K = 0
  | 0, _ => rfl
  | v + 1, h => by
    have ih := netS_z (f := f) (x := x) (s := s) (m := m) (K := v) fun u hu => h u (by omega)
    simp [netS, ih, h v (by omega)]
theorem hof_of {p : Pl} (hp : okP p) {x : Nat → Int} (h : IsT p x) : Hof p := by
  intro s hs
  rw [bad_f]
  have e := net_cut hp x s p.f.n (Nat.le_refl _)
  rw [netS_z fun v hv => h.net v (by have := hp.k; omega)] at e
  have h1 : IL p.f s ≤ sm (tkB p.f s) x p.f.n := sm_mono fun i hi _ => (h.gas i hi).1
  have h2 : sm (gvB p.f s) x p.f.n ≤ OH p.f s := sm_mono fun i hi _ => (h.gas i hi).2
  omega
theorem hb_one {v : Nat} {x : Int} (h0 : 0 ≤ x) : hb (2 ^ v) x = decide (x = v) := by
  unfold hb
  rw [Nat.testBit_two_pow]
  exact decide_eq_decide.2 (by omega)
theorem tk_one {p : Pl} (hp : okP p) {v i : Nat} (hi : i < p.f.n) : tkB p.f (2 ^ v) i = decide (p.f.to i = v) ∧ gvB p.f (2 ^ v) i = decide (p.f.fr i = v) := by
  have h1 := hp.fr i hi
  have h2 := hp.to i hi
  have h3 := hp.ne i hi
  unfold tkB gvB
  rw [hb_one h1.1, hb_one h2.1]
  by_cases a : p.f.to i = v <;> by_cases b : p.f.fr i = v
  · omega
  · simp [a, b]
  · simp [a, b]
  · simp [a, b]
theorem isT_of {p : Pl} (hp : okP p) (h : Hof p) {x : Nat → Int} (he : ∀ i, i < p.f.n → p.f.lo i = x i ∧ p.f.hi i = x i) : IsT p x := by
  refine ⟨fun i hi => ?_, fun v hv => ?_⟩
  · obtain ⟨h1, h2⟩ := he i hi
    omega
  · have hs : 2 ^ v < pwk p.k := Nat.pow_lt_pow_right (by omega) (by omega)
    have a := h _ hs
    rw [bad_f] at a
    have b := h _ (cmpl_lt (k := p.k) (2 ^ v))
    rw [bad_f, (IL_cmpl hp hs).1, (IL_cmpl hp hs).2] at b
    have e1 : IL p.f (2 ^ v) = sm (fun i => decide (p.f.to i = v)) x p.f.n := sm_congr fun i hi => ⟨(tk_one hp hi).1, fun _ => (he i hi).1⟩
    have e2 : OH p.f (2 ^ v) = sm (fun i => decide (p.f.fr i = v)) x p.f.n := sm_congr fun i hi => ⟨(tk_one hp hi).2, fun _ => (he i hi).2⟩
    have e3 : OL p.f (2 ^ v) = sm (fun i => decide (p.f.fr i = v)) x p.f.n := sm_congr fun i hi => ⟨(tk_one hp hi).2, fun _ => (he i hi).1⟩
    have e4 : IH p.f (2 ^ v) = sm (fun i => decide (p.f.to i = v)) x p.f.n := sm_congr fun i hi => ⟨(tk_one hp hi).1, fun _ => (he i hi).2⟩
    unfold netN
    omega
def truF (p : Pl) : Nat → Fl
  | 0 => p.f
  | i + 1 => setF (truF p i) i (tgE false ⟨p.k, truF p i⟩ i)
def truV (p : Pl) (i : Nat) : Int := tgE false ⟨p.k, truF p i⟩ i
theorem setP_ok {p : Pl} (hp : okP p) {i : Nat} {x : Int} (hx : i < p.f.n → p.f.lo i ≤ x ∧ x ≤ p.f.hi i) : okP (setP p i x) := by
  refine ⟨hp.k, hp.n, hp.fr, hp.to, hp.ne, fun j hj => ?_⟩
  have hj : j < p.f.n := hj
  have := hp.gas j hj
  show 0 ≤ (if j = i then x else p.f.lo j) ∧ (if j = i then x else p.f.lo j) ≤ (if j = i then x else p.f.hi j) ∧ (if j = i then x else p.f.hi j) ≤ 1073741824
  by_cases e : j = i
  · subst e
    have := hx hj
    simp only [if_true]; omega
  · simp only [if_neg e]; exact this
theorem tg_in {p : Pl} (hp : okP p) (h : Hof p) {i : Nat} (hi : i < p.f.n) : p.f.lo i ≤ tgE false p i ∧ tgE false p i ≤ tgE true p i ∧ tgE true p i ≤ p.f.hi i :=
  ⟨(tgt_lo (f := p.f) (i := i) (pwk p.k)).1, tg_le hp h hi, (tgt_hi (f := p.f) (i := i) (pwk p.k)).1⟩
theorem truF_n (p : Pl) : ∀ i, (truF p i).n = p.f.n ∧ (truF p i).fr = p.f.fr ∧ (truF p i).to = p.f.to
  | 0 => ⟨rfl, rfl, rfl⟩
  | i + 1 => truF_n p i
theorem truF_ok {p : Pl} (hp : okP p) (h : Hof p) : ∀ i, i ≤ p.f.n → okP ⟨p.k, truF p i⟩ ∧ Hof ⟨p.k, truF p i⟩
  | 0, _ => ⟨hp, h⟩
  | i + 1, hi => by
    obtain ⟨h1, h2⟩ := truF_ok hp h i (by omega)
    have hi' : i < (truF p i).n := by rw [(truF_n p i).1]; omega
    have hx := tg_in h1 h2 hi'
    refine ⟨setP_ok (p := ⟨p.k, truF p i⟩) h1 fun _ => ⟨hx.1, by have := hx.2; exact Int.le_trans this.1 this.2⟩, ?_⟩
    exact ((fix_hof h1 h2 hi' (truV p i)).2 ⟨Int.le_refl _, hx.2.1⟩).2
theorem truF_at (p : Pl) : ∀ i j, (truF p i).lo j = (if j < i then truV p j else p.f.lo j) ∧ (truF p i).hi j = (if j < i then truV p j else p.f.hi j)
  | 0, j => ⟨by simp [truF], by simp [truF]⟩
  | i + 1, j => by
    obtain ⟨h1, h2⟩ := truF_at p i j
    show (if j = i then truV p i else (truF p i).lo j) = _ ∧ (if j = i then truV p i else (truF p i).hi j) = _
    by_cases e : j = i
    · subst e
      simp
    · simp only [if_neg e, h1, h2]
      by_cases l : j < i
      · rw [if_pos l, if_pos l, if_pos (by omega)]; exact ⟨rfl, by rw [if_pos (by omega)]⟩
      · rw [if_neg l, if_neg l, if_neg (by omega)]; exact ⟨rfl, by rw [if_neg (by omega)]⟩
theorem truV_in {p : Pl} (hp : okP p) (h : Hof p) {i : Nat} (hi : i < p.f.n) : p.f.lo i ≤ truV p i ∧ truV p i ≤ p.f.hi i := by
  obtain ⟨h1, h2⟩ := truF_ok hp h i (by omega)
  have hx := tg_in h1 h2 (i := i) (by show i < (truF p i).n; rw [(truF_n p i).1]; exact hi)
  have e := truF_at p i i
  rw [if_neg (Nat.lt_irrefl _), if_neg (Nat.lt_irrefl _)] at e
  have h3 : (truF p i).lo i ≤ truV p i := hx.1
  have h4 : truV p i ≤ (truF p i).hi i := Int.le_trans hx.2.1 hx.2.2
  omega
theorem tru_is {p : Pl} (hp : okP p) (h : Hof p) : IsT p (truV p) := by
  obtain ⟨h1, h2⟩ := truF_ok hp h p.f.n (Nat.le_refl _)
  have e := isT_of h1 h2 (x := truV p) fun i hi => by
    have hi : i < p.f.n := by rw [← (truF_n p p.f.n).1]; exact hi
    have := truF_at p p.f.n i
    rw [if_pos hi, if_pos hi] at this
    exact this
  refine ⟨fun i hi => truV_in hp h hi, fun v hv => ?_⟩
  have := e.net v hv
  unfold netN at this ⊢
  obtain ⟨a, b, c⟩ := truF_n p p.f.n
  simp only [a, b, c] at this
  exact this
theorem isT_set {p : Pl} {x : Nat → Int} (h : IsT p x) (i : Nat) : IsT (setP p i (x i)) x := by
  refine ⟨fun j hj => ?_, h.net⟩
  have := h.gas j hj
  show (if j = i then x i else p.f.lo j) ≤ x j ∧ x j ≤ (if j = i then x i else p.f.hi j)
  by_cases e : j = i
  · subst e; simp
  · simp only [if_neg e]; exact this
theorem tg_of {p : Pl} (hp : okP p) {x : Nat → Int} (h : IsT p x) {i : Nat} (hi : i < p.f.n) : tgE false p i ≤ x i ∧ x i ≤ tgE true p i :=
  (fix_hof hp (hof_of hp h) hi (x i)).1 ⟨h.gas i hi, hof_of (setP_ok hp fun _ => h.gas i hi) (isT_set h i)⟩
theorem tru_first {p : Pl} (hp : okP p) {x : Nat → Int} (h : IsT p x) {i : Nat} (hi : i < p.f.n) (he : ∀ j, j < i → truV p j = x j) : truV p i ≤ x i := by
  have H := hof_of hp h
  obtain ⟨h1, h2⟩ := truF_ok hp H i (by omega)
  have hT : IsT ⟨p.k, truF p i⟩ x := by
    refine ⟨fun j hj => ?_, fun v hv => ?_⟩
    · have hj : j < p.f.n := by rw [← (truF_n p i).1]; exact hj
      have := truF_at p i j
      show (truF p i).lo j ≤ x j ∧ x j ≤ (truF p i).hi j
      rw [this.1, this.2]
      by_cases l : j < i
      · rw [if_pos l, if_pos l, he j l]; omega
      · rw [if_neg l, if_neg l]; exact h.gas j hj
    · have := h.net v hv
      unfold netN at this ⊢
      obtain ⟨a, b, c⟩ := truF_n p i
      simp only [a, b, c]
      exact this
  exact (tg_of h1 hT (i := i) (by show i < (truF p i).n; rw [(truF_n p i).1]; exact hi)).1
theorem tg_ex {p : Pl} (hp : okP p) (h : Hof p) {i : Nat} (hi : i < p.f.n) {x : Int} (hx : tgE false p i ≤ x ∧ x ≤ tgE true p i) : ∃ y, IsT p y ∧ y i = x := by
  have h1 := (fix_hof hp h hi x).2 hx
  have hk := setP_ok hp (i := i) fun _ => h1.1
  have T := tru_is hk h1.2
  have ei : truV (setP p i x) i = x := by
    have := T.gas i hi
    have e : (setP p i x).f.lo i = x ∧ (setP p i x).f.hi i = x := ⟨if_pos rfl, if_pos rfl⟩
    rw [e.1, e.2] at this
    omega
  refine ⟨truV (setP p i x), ⟨fun j hj => ?_, T.net⟩, ei⟩
  by_cases e : j = i
  · subst e; rw [ei]; exact h1.1
  · have := T.gas j hj
    have e2 : (setP p i x).f.lo j = p.f.lo j ∧ (setP p i x).f.hi j = p.f.hi j := ⟨if_neg e, if_neg e⟩
    rw [e2.1, e2.2] at this
    exact this
end Go.Proofs.Ytmjbflifegmmnaa
