import Derived.ProofKit
import Derived.Test.YtfobgmecnlehaaaProg
import Derived.Test.YtfobgmecnlehaaaPfPgPhPiPjPk
import Derived.Test.YtfobgmecnlehaaaPn
set_option linter.unusedVariables false
set_option linter.unusedSimpArgs false
namespace Go.Proofs.Ytfobgmecnlehaaa
open Go Go.Lg
attribute [local irreducible] bodyH
def rI (x : Int) : Prop := -9223372036854775808 ≤ x ∧ x ≤ 9223372036854775807
def rE {α : Type} (a : α) : Prop := a = a
noncomputable def cntX (nt s : Nat) (x : SV) (n : Nat) (inv : Nat → Prop) (fr : List (Nat × SV)) (rows : List (Option SRow)) : Nat → Option HSpec :=
  oneL 0 (natH (fun k => k ≤ n ∧ inv k) (fun k => n - k) rows.length (fun k => mkF nt (fr ++ [(s, x), (s + 1, i6 n), (s + 2, i6 k)])) (fun _ => mkX rows) fun _ => none)
def inL (n : Nat) (g : Nat → Int) : SV := .lst 1 n fun i => i6 (g i)
def iOf (f : Nat → SV) (i : Nat) : Int := prI (f i)
structure Act where
  pr : Int
  dv : Int
  st : Int
  gn : Int
  mo : Int
  ba : Int
def Act.cells (a : Act) : List SV := [i6 a.pr, i6 a.dv, i6 a.st, i6 a.gn, i6 a.mo, i6 a.ba]
def Act.sv (a : Act) : SV := .agg a.cells
structure Yr where
  pr : Int
  cp : Int
  pf : Int
def Yr.sv (y : Yr) : SV := .agg [i6 y.pr, i6 y.cp, i6 y.pf]
def yOf : SV → Yr
  | .agg [.int _ a, .int _ b, .int _ c] => ⟨a, b, c⟩
  | _ => ⟨0, 0, 0⟩
def yrF (f : Nat → SV) (i : Nat) : Yr := yOf (f i)
def yrL (n : Nat) (f : Nat → Yr) : SV := .lst 3 n fun i => (f i).sv
def bt (lo hi x : Int) : Prop := lo ≤ x ∧ x ≤ hi
structure okA (a : Act) : Prop where
  pr : bt 0 100000 a.pr
  st : bt 1 100000 a.st
  dv : bt 0 10000 a.dv
  gn : bt 0 10000 a.gn
  mo : bt 0 1099511627776 a.mo
  ba : bt 0 5 a.ba
structure okY (y : Yr) : Prop where
  pr : bt 0 100000 y.pr
  cp : bt 0 1099511627776 y.cp
  pf : bt (-1099511627776) 1099511627776 y.pf
def frL (lo hi : Int) (n : Nat) (g : Nat → Int) : Prop := ∀ i, i < n → bt lo hi (g i)
noncomputable def afG (lo hi : Int) (n : Nat) (g : Nat → Int) : Prop := funH Try.prog (ctrs []) noX (ictrs []) (cntX 24 9 (inL n g) n (fun k => frL lo hi k g) [(0, i6 lo), (1, i6 hi)] []) noL 30 [i6 lo, i6 hi, inL n g] (.dec (frL lo hi n g) (Classical.propDecidable _))
noncomputable def afC : Ctr := ⟨30, fun args k => match args with
  | [.int .i64 lo, .int .i64 hi, .lst 1 n f] => SV.lst 1 n f = inL n (iOf f) ∧ n < 1000 ∧ k (.dec (frL lo hi n (iOf f)) (Classical.propDecidable _))
  | _ => False⟩
noncomputable def vaG (a : Act) : Prop := funH Try.prog (ctrs [afC]) noX (ictrs []) noL noL 29 [a.sv] (.dec (okA a) (Classical.propDecidable _))
noncomputable def vaC (f : FuncId) : Ctr := ⟨f, fun args k => match args with
  | [.agg [.int .i64 a, .int .i64 b, .int .i64 c, .int .i64 d, .int .i64 e, .int .i64 f]] => k (.dec (okA ⟨a, b, c, d, e, f⟩) (Classical.propDecidable _))
  | _ => False⟩
def mnJ (x : Int) (g : Nat → Int) : Nat → Int
  | 0 => x
  | k + 1 => min (mnJ x g k) (g k)
noncomputable def kpG (x lo : Int) (n : Nat) (g : Nat → Int) : Prop := funH Try.prog (ctrs []) noX (ictrs []) (
  oneL 0 (natH (fun k => k ≤ n) (fun k => n - k) 0 (fun k => mkF 22 [(0, i6 (mnJ x g k)), (1, i6 lo), (9, inL n g), (10, i6 n), (11, i6 k)]) (fun _ => mkX []) fun _ => none)) noL 48 [i6 x, i6 lo, inL n g] (i6 (max (mnJ x g n) lo))
noncomputable def kpC : Ctr := ⟨48, fun args k => match args with
  | [.int .i64 x, .int .i64 lo, .lst 1 n f] => SV.lst 1 n f = inL n (iOf f) ∧ n < 1000 ∧ k (i6 (max (mnJ x (iOf f) n) lo))
  | _ => False⟩
def stA (a : Act) (p : Int) : Int := (a.pr - p) / a.st
def rtA (a : Act) (p : Int) : Int := max (min (a.dv + a.gn * stA a p) 10000) 0
noncomputable def toV (a : Act) (p : Int) : SV := @ite _ (a.pr < p) (Classical.propDecidable _) (.ifc 130 (i6 (p - a.pr))) (.ifc 131 (i6 (a.pr - p)))
noncomputable def toG1 (a : Act) (p : Int) : Prop := funH Try.prog (ctrs []) noX (ictrs []) noL noL 49 [a.sv, i6 p] (.ifc 130 (i6 (p - a.pr)))
noncomputable def toG2 (a : Act) (p : Int) : Prop := funH Try.prog (ctrs []) noX (ictrs []) noL noL 49 [a.sv, i6 p] (.ifc 131 (i6 (a.pr - p)))
noncomputable def toC : Ctr := ⟨49, fun args k => match args with
  | [.agg [.int .i64 a, .int .i64 b, .int .i64 c, .int .i64 d, .int .i64 e, .int .i64 f], .int .i64 p] => bt 0 100000 a ∧ bt 0 100000 p ∧ (a < p → k (.ifc 130 (i6 (p - a)))) ∧ (¬ a < p → k (.ifc 131 (i6 (a - p))))
  | _ => False⟩
noncomputable def s1G (d s : Int) : Prop := funH Try.prog (ctrs []) noX (ictrs []) noL noL 97 [i6 d, i6 s] (i6 ((-d) / s))
noncomputable def s1C : Ctr := ⟨97, fun args k => match args with
  | [.int .i64 d, .int .i64 s] => bt 1 100000 d ∧ bt 1 100000 s ∧ k (i6 ((-d) / s))
  | _ => False⟩
noncomputable def s2G (d s : Int) : Prop := funH Try.prog (ctrs []) noX (ictrs []) noL noL 98 [i6 d, i6 s] (i6 (d / s))
noncomputable def s2C : Ctr := ⟨98, fun args k => match args with
  | [.int .i64 d, .int .i64 s] => bt 0 100000 d ∧ bt 1 100000 s ∧ k (i6 (d / s))
  | _ => False⟩
noncomputable def rtG (a : Act) (p : Int) : Prop := funH Try.prog (ctrsF [toC] (ctrs [s1C, s2C, kpC])) noX (ictrs []) noL noL 31 [a.sv, i6 p] (i6 (rtA a p))
noncomputable def rtC (f : FuncId) : Ctr := ⟨f, fun args k => match args with
  | [.agg [.int .i64 a, .int .i64 b, .int .i64 c, .int .i64 d, .int .i64 e, .int .i64 f], .int .i64 p] => okA ⟨a, b, c, d, e, f⟩ ∧ bt 0 100000 p ∧ k (i6 (rtA ⟨a, b, c, d, e, f⟩ p))
  | _ => False⟩
end Go.Proofs.Ytfobgmecnlehaaa

set_option maxRecDepth 100000
namespace Go.Proofs.Ytfobgmecnlehaaa
open Go Go.Lg
theorem afG_vc (lo:Int) (hi:Int) (n:Nat) (g:Nat→Int):afG lo hi n g =
((∃ (z:Nat),(z≤n∧frL lo hi z g)∧lo=lo∧hi=hi∧n=n∧(∀ (i:Nat),i<n→rE ((i6 (g i)).den)∧True)∧rE (↑n:Int)∧(0:Int)=(↑z:Int)∧True)∧∀ (z:Nat),z≤n∧frL lo hi z g→((↑z:Int)<(↑n:Int)→(0:Int)≤(↑z:Int)∧(↑z:Int)<(↑n:Int)∧(g (↑z:Int).toNat<lo→(false=true↔frL lo hi n g)∧True)∧(¬g (↑z:Int).toNat<lo→(hi<g (↑z:Int).toNat→(false=true↔frL lo hi n g)∧True)∧(¬hi<g (↑z:Int).toNat→rI ((↑z:Int)+(1:Int))∧∃ (z_1:Nat),(z_1≤n∧frL lo hi z_1 g)∧n - z_1<n - z∧lo=lo∧hi=hi∧n=n∧(∀ (i:Nat),i<n→rE ((i6 (g i)).den)∧True)∧rE (↑n:Int)∧(↑z:Int)+(1:Int)=(↑z_1:Int)∧True)))∧(¬(↑z:Int)<(↑n:Int)→(rE true↔frL lo hi n g)∧True)):=by kernel_rfl
theorem vaG_vc (a:Ytfobgmecnlehaaa.Act):vaG a =
((0:Nat)<(1:Nat)∧True∧(∀ (i:Nat),i<(1:Nat)→True)∧SV.lst (1:Nat) (1:Nat) (chainF [SV.int IntKind.i64 a.pr])=inL (1:Nat) (iOf (chainF [SV.int IntKind.i64 a.pr]))∧(1:Nat)<(1000:Nat)∧(frL (0:Int) (100000:Int) (1:Nat) (iOf (chainF [SV.int IntKind.i64 a.pr]))→(0:Nat)<(1:Nat)∧True∧(∀ (i:Nat),i<(1:Nat)→True)∧SV.lst (1:Nat) (1:Nat) (chainF [SV.int IntKind.i64 a.st])=inL (1:Nat) (iOf (chainF [SV.int IntKind.i64 a.st]))∧(1:Nat)<(1000:Nat)∧(frL (1:Int) (100000:Int) (1:Nat) (iOf (chainF [SV.int IntKind.i64 a.st]))→(0:Nat)<(1:Nat)∧(0:Nat)<(1:Nat)∧((∀ (i:Nat),rE true)∧True)∧(∀ (i:Nat),i<(2:Nat)→True)∧SV.lst (1:Nat) (2:Nat) (chainF [SV.int IntKind.i64 a.dv,SV.int IntKind.i64 a.gn])=inL (2:Nat) (iOf (chainF [SV.int IntKind.i64 a.dv,SV.int IntKind.i64 a.gn]))∧(2 :
Nat)<(1000:Nat)∧(frL (0:Int) (10000:Int) (2:Nat) (iOf (chainF [SV.int IntKind.i64 a.dv,SV.int IntKind.i64 a.gn]))→(0:Nat)<(1:Nat)∧True∧(∀ (i:Nat),i<(1:Nat)→True)∧SV.lst (1:Nat) (1:Nat) (chainF [SV.int IntKind.i64 a.mo])=inL (1:Nat) (iOf (chainF [SV.int IntKind.i64 a.mo]))∧(1:Nat)<(1000:Nat)∧(frL (0:Int) (1099511627776:Int) (1:Nat) (iOf (chainF [SV.int IntKind.i64 a.mo]))→(0:Nat)<(1:Nat)∧True∧(∀ (i:Nat),i<(1:Nat)→True)∧SV.lst (1:Nat) (1:Nat) (chainF [SV.int IntKind.i64 a.ba])=inL (1:Nat) (iOf (chainF [SV.int IntKind.i64 a.ba]))∧(1:Nat)<(1000:Nat)∧(frL (0:Int) (5:Int) (1:Nat) (iOf (chainF [SV.int IntKind.i64 a.ba]))↔okA a)∧True)∧(¬frL (0:Int) (1099511627776:Int) (1:Nat) (iOf (chainF [SV.int IntKind.i64 a.mo]))→(false=true↔okA a)∧True))∧(¬frL (0:Int) (10000 :
Int) (2:Nat) (iOf (chainF [SV.int IntKind.i64 a.dv,SV.int IntKind.i64 a.gn]))→(false=true↔okA a)∧True))∧(¬frL (1:Int) (100000:Int) (1:Nat) (iOf (chainF [SV.int IntKind.i64 a.st]))→(false=true↔okA a)∧True))∧(¬frL (0:Int) (100000:Int) (1:Nat) (iOf (chainF [SV.int IntKind.i64 a.pr]))→(false=true↔okA a)∧True)):=by kernel_rfl
theorem kpG_vc (x:Int) (lo:Int) (n:Nat) (g:Nat→Int):kpG x lo n g =
((∃ (z:Nat),
  z≤n ∧
   x=mnJ x g z ∧
    lo=lo ∧
     n=n ∧
      (∀ (i:Nat),i<n→(i6 (g i)).den=(i6 (g i)).den∧True) ∧
       (↑n:Int)=(↑n:Int)∧(0:Int)=(↑z:Int)∧True) ∧
 ∀ (z:Nat),
  z≤n →
   ((↑z:Int)<(↑n:Int) →
     (0:Int)≤(↑z:Int) ∧
      (↑z:Int)<(↑n:Int) ∧
       ((-9223372036854775808:Int)≤(↑z:Int)+(1:Int) ∧
         (↑z:Int)+(1:Int)≤(9223372036854775807:Int)) ∧
        ∃ (z_1:Nat),
         z_1≤n ∧
          n - z_1<n - z ∧
           min (mnJ x g z) (g (↑z:Int).toNat)=mnJ x g z_1 ∧
            lo=lo ∧
             n=n ∧
              (∀ (i:Nat),i<n→(i6 (g i)).den=(i6 (g i)).den∧True) ∧
               (↑n:Int)=(↑n:Int)∧(↑z:Int)+(1:Int)=(↑z_1:Int)∧True) ∧
    (¬(↑z:Int)<(↑n:Int)→max (mnJ x g z) lo=max (mnJ x g n) lo∧True)):=by kernel_rfl
theorem toG1_vc (a:Ytfobgmecnlehaaa.Act) (p:Int):toG1 a p =
((0:Nat)<(1:Nat) ∧
 (a.1<p →
   (0:Nat)<(1:Nat) ∧
    ((-9223372036854775808:Int)≤p - a.1∧p - a.1≤(9223372036854775807:Int))∧p - a.1=p - a.1∧True) ∧
  (¬a.1<p →
   (0:Nat)<(1:Nat)∧((-9223372036854775808:Int)≤a.1 - p∧a.1 - p≤(9223372036854775807:Int))∧False)):=by kernel_rfl
theorem toG2_vc (a:Ytfobgmecnlehaaa.Act) (p:Int):toG2 a p =
((0:Nat)<(1:Nat) ∧
 (a.1<p →
   (0:Nat)<(1:Nat) ∧
    ((-9223372036854775808:Int)≤p - a.1∧p - a.1≤(9223372036854775807:Int))∧False) ∧
  (¬a.1<p →
   (0:Nat)<(1:Nat) ∧
    ((-9223372036854775808:Int)≤a.1 - p∧a.1 - p≤(9223372036854775807:Int))∧a.1 - p=a.1 - p∧True)):=by kernel_rfl
theorem s1G_vc (d:Int) (s:Int):s1G d s =
(((-9223372036854775808:Int)≤d+s∧d+s≤(9223372036854775807:Int)) ∧
 ((-9223372036854775808:Int)≤d+s - (1:Int)∧d+s - (1:Int)≤(9223372036854775807:Int)) ∧
  (s=(0:Int)→False) ∧
   ((-9223372036854775808:Int)≤(d+s - (1:Int)).tdiv s ∧
     (d+s - (1:Int)).tdiv s≤(9223372036854775807:Int)) ∧
    ((-9223372036854775808:Int)≤(0:Int) - (d+s - (1:Int)).tdiv s ∧
      (0:Int) - (d+s - (1:Int)).tdiv s≤(9223372036854775807:Int)) ∧
     (0:Int) - (d+s - (1:Int)).tdiv s=-d / s∧True):=by kernel_rfl
theorem s2G_vc (d:Int) (s:Int):s2G d s =
((s=(0:Int)→False) ∧
 ((-9223372036854775808:Int)≤d.tdiv s∧d.tdiv s≤(9223372036854775807:Int))∧d.tdiv s=d / s∧True):=by kernel_rfl
theorem rtG_vc (a:Ytfobgmecnlehaaa.Act) (p:Int):rtG a p =
((0:Nat)<(1:Nat)∧(0:Nat)<(1:Nat)∧(0:Nat)<(1:Nat)∧bt (0:Int) (100000:Int) a.pr∧bt (0:Int) (100000:Int) p∧(a.1<p→(0:Nat)<(1:Nat)∧bt (1:Int) (100000:Int) (p - a.pr)∧bt (1:Int) (100000:Int) a.st∧rI (a.4*(-(p - a.1) / a.3))∧rI (a.2+a.4*(-(p - a.1) / a.3))∧True∧(∀ (i:Nat),i<(1:Nat)→True)∧SV.lst (1:Nat) (1:Nat) (chainF [SV.int IntKind.i64 (10000:Int)])=inL (1:Nat) (iOf (chainF [SV.int IntKind.i64 (10000:Int)]))∧(1:Nat)<(1000:Nat)∧max (mnJ (a.2+a.4*(-(p - a.1) / a.3)) (iOf (chainF [SV.int IntKind.i64 (10000:Int)])) (1:Nat)) (0:Int)=rtA a p∧True)∧(¬a.1<p→(0:Nat)<(1:Nat)∧bt (0:Int) (100000:Int) (a.pr - p)∧bt (1:Int) (100000:Int) a.st∧rI (a.4*((a.1 - p) / a.3))∧rI (a.2+a.4*((a.1 - p) / a.3))∧True∧(∀ (i:Nat),i<(1:Nat)→True)∧SV.lst (1
: Nat) (1:Nat) (chainF [SV.int IntKind.i64 (10000:Int)])=inL (1:Nat) (iOf (chainF [SV.int IntKind.i64 (10000:Int)]))∧(1:Nat)<(1000:Nat)∧max (mnJ (a.2+a.4*((a.1 - p) / a.3)) (iOf (chainF [SV.int IntKind.i64 (10000:Int)])) (1:Nat)) (0:Int)=rtA a p∧True)):=by kernel_rfl
end Go.Proofs.Ytfobgmecnlehaaa

set_option maxRecDepth 100000
namespace Go.Proofs.Ytfobgmecnlehaaa
open Go Go.Lg
attribute [local irreducible] funS bodyH
theorem mixed:Try.prog.follows .mixedOrders=true:=by kernel_rfl
theorem nilS_x {γ:GS→noGhost.S}:SoundXH Try.prog noGhost γ noX:=noX_sound
theorem nilS_ic:SoundIH Try.prog (ictrs []):=ictrs_sound (by intro x hx; simp at hx)
theorem nilS_cs:SoundS Try.prog (ctrs []):=ctrs_sound (by intro x hx; simp at hx)
theorem plainD {cs:CSpec} {cx:CX} {ic:IC} {sp isp f args res} (hcs:SoundS Try.prog cs) (hcx:SoundXH Try.prog noGhost γ0 cx) (hic:SoundIH Try.prog ic) (h:funH Try.prog cs cx ic sp isp f args res) (hp:plainS res):Does Try.prog f true (SV.denL args) res.den :=
 Does.plain (funH_does hcs hcx hic mixed h) hp
theorem one_cs {x:Ctr} (h:x.Ok Try.prog):SoundS Try.prog (ctrs [x]):=ctrs_sound (by intro y hy; simp at hy; subst hy; exact h)
theorem two_cs {x y:Ctr} (h:x.Ok Try.prog) (h2:y.Ok Try.prog):SoundS Try.prog (ctrs [x,y]):=ctrs_sound (by intro z hz; simp at hz; rcases hz with rfl | rfl; exact h; exact h2)
theorem three_cs {x y z:Ctr} (h:x.Ok Try.prog) (h2:y.Ok Try.prog) (h3:z.Ok Try.prog):SoundS Try.prog (ctrs [x,y,z]):=ctrs_sound (by intro u hu; simp at hu; rcases hu with rfl | rfl | rfl; exact h; exact h2; exact h3)
theorem fF {p:Prop} (h:¬ p):(False↔p):=⟨False.elim,h⟩
theorem af_true (lo hi:Int) (n:Nat) (g:Nat→Int) (hn:n<1000):afG lo hi n g:=by
 rw [afG_vc]
 simp only [rI,rE,and_true,true_and,Nat.zero_lt_one,and_self,implies_true,Int.toNat_natCast,Bool.false_eq_true,true_iff]
 refine ⟨⟨0,⟨by omega,fun i hi=>by omega⟩,rfl⟩,fun z ⟨hz,hi⟩=>⟨fun hl=>⟨by omega,hl,fun h1=>fF fun h=>?_,fun h1=>⟨fun h2=>fF fun h=>?_,fun h2=>⟨by omega,z+1,⟨by omega,fun i hi'=>?_⟩,by omega,by omega⟩⟩⟩,fun hl=>?_⟩⟩
 ·have:=(h z (by omega)).1; omega
 ·have:=(h z (by omega)).2; omega
 ·by_cases e:i<z
  ·exact hi i e
  ·have:i=z:=by omega
   subst this; exact ⟨by omega,by omega⟩
 ·have:z=n:=by omega
  subst this; exact hi
theorem af_ok:afC.Ok Try.prog:=by
 refine ⟨by kernel_rfl,fun x k hk=>?_⟩
 simp only [afC] at hk
 split at hk
 ·rename_i lo hi n f
  obtain ⟨hf,hn,hk⟩:=hk
  have hh:=af_true lo hi n (iOf f) hn
  unfold afG at hh
  rw [← hf] at hh
  exact ⟨_,plainD nilS_cs nilS_x nilS_ic hh trivial,hk⟩
 ·exact hk.elim
theorem fr1 (lo hi a:Int):frL lo hi 1 (iOf (chainF [SV.int IntKind.i64 a]))↔bt lo hi a :=
 ⟨fun h=>h 0 (by omega),fun h i _=>h⟩
theorem fr2 (lo hi a b:Int):frL lo hi 2 (iOf (chainF [SV.int IntKind.i64 a,SV.int IntKind.i64 b]))↔bt lo hi a∧bt lo hi b :=
 ⟨fun h=>⟨h 0 (by omega),h 1 (by omega)⟩,fun h i hi=>by
  match i,hi with
  | 0,_=>exact h.1
  | 1,_=>exact h.2⟩
theorem ch1 (a:Int):SV.lst 1 1 (chainF [SV.int IntKind.i64 a])=inL 1 (iOf (chainF [SV.int IntKind.i64 a])):=rfl
theorem ch2 (a b:Int):SV.lst 1 2 (chainF [SV.int IntKind.i64 a,SV.int IntKind.i64 b])=inL 2 (iOf (chainF [SV.int IntKind.i64 a,SV.int IntKind.i64 b])):=rfl
theorem va_true (a:Act):vaG a:=by
 rw [vaG_vc]
 simp only [rI,rE,and_true,true_and,Nat.zero_lt_one,and_self,implies_true,fr1,fr2,ch1,ch2,Bool.false_eq_true,false_iff]
 and_intros <;> first
  | decide
  | skip
 refine fun h1=>⟨by decide,fun h2=>⟨by decide,fun h3=>⟨by decide,fun h4=>⟨by decide,⟨fun h5=>⟨h1,h2,h3.1,h3.2,h4,h5⟩,fun h=>h.ba⟩⟩,fun h4 h=>h4 h.mo⟩,fun h3 h=>h3 ⟨h.dv,h.gn⟩⟩,fun h2 h=>h2 h.st⟩
 exact fun h1 h=>h1 h.pr
theorem vaX_ok {g:FuncId} (hc:callable Try.prog g=true) (h:∀ a:Act,Does Try.prog g true (SV.denL [a.sv]) (SV.dec (okA a) (Classical.propDecidable _)).den):(vaC g).Ok Try.prog:=by
 refine ⟨hc,fun x k hk=>?_⟩
 simp only [vaC] at hk
 split at hk
 ·rename_i a b c d e f
  exact ⟨_,h ⟨a,b,c,d,e,f⟩,hk⟩
 ·exact hk.elim
theorem va_ok:(vaC 29).Ok Try.prog:=vaX_ok (by kernel_rfl) fun a=>by
 have hh:=va_true a
 unfold vaG at hh
 exact plainD (one_cs af_ok) nilS_x nilS_ic hh trivial
theorem kp_true (x lo:Int) (n:Nat) (g:Nat→Int) (hn:n<1000):kpG x lo n g:=by
 rw [kpG_vc]
 simp only [rI,rE,and_true,true_and,Nat.zero_lt_one,and_self,implies_true,Int.toNat_natCast]
 refine ⟨⟨0,by omega,rfl,rfl⟩,fun z hz=>⟨fun hl=>⟨by omega,hl,by omega,z+1,by omega,by omega,rfl,by omega⟩,fun hl=>?_⟩⟩
 have:z=n:=by omega
 subst this; rfl
theorem kp_ok:kpC.Ok Try.prog:=by
 refine ⟨by kernel_rfl,fun x k hk=>?_⟩
 simp only [kpC] at hk
 split at hk
 ·rename_i x lo n f
  obtain ⟨hf,hn,hk⟩:=hk
  have hh:=kp_true x lo n (iOf f) hn
  unfold kpG at hh
  rw [← hf] at hh
  exact ⟨_,plainD nilS_cs nilS_x nilS_ic hh trivial,hk⟩
 ·exact hk.elim
theorem kp1 (x b lo:Int):max (mnJ x (iOf (chainF [SV.int IntKind.i64 b])) 1) lo=max (min x b) lo:=rfl
theorem div_of {a s q r:Int} (h:a=s*q+r) (h0:0≤r) (h1:r<s):a / s=q:=by
 have hs:0<s:=by omega
 have:=(Int.ediv_emod_unique hs (a:=a) (r:=r) (q:=q)).2 ⟨by omega,h0,h1⟩
 exact this.1
theorem div_bd {x s B:Int} (h:-B≤x) (h2:x≤B) (hs:1≤s) (hB:0≤B):-B≤x / s∧x / s≤B:=by
 constructor
 ·refine (Int.le_ediv_iff_mul_le (by omega)).2 ?_
  have:B*1≤B*s:=Int.mul_le_mul_of_nonneg_left hs hB
  rw [Int.neg_mul]; omega
 ·have h3:x / s<B+1:=(Int.ediv_lt_iff_lt_mul (by omega)).2 (by
   have:(B+1)*1≤(B+1)*s:=Int.mul_le_mul_of_nonneg_left hs (by omega)
   omega)
  omega
theorem mul_bd {g t:Int} (h0:0≤g) (h1:g≤10000) (h2:-100001≤t) (h3:t≤100001):-1000010000≤g*t∧g*t≤1000010000:=by
 have a1:g*t≤g*100001:=Int.mul_le_mul_of_nonneg_left h3 h0
 have a2:g*-100001≤g*t:=Int.mul_le_mul_of_nonneg_left h2 h0
 omega
theorem up_div {d s:Int} (hd:1≤d) (hs:1≤s):0 - (d+s - 1).tdiv s=-d / s:=by
 rw [Int.tdiv_eq_ediv_of_nonneg (by omega)]
 have h1:=Int.mul_ediv_add_emod (d+s - 1) s
 have h2:=Int.emod_nonneg (d+s - 1) (b:=s) (by omega)
 have h3:=Int.emod_lt_of_pos (d+s - 1) (b:=s) (by omega)
 generalize (d+s - 1) / s=q at *
 generalize (d+s - 1) % s=r at *
 refine (div_of (r:=s - 1 - r) ?_ (by omega) (by omega)).symm
 rw [show s*(0 - q)=-(s*q) by rw [Int.zero_sub,Int.mul_neg]]
 omega
theorem to_ok:toC.OkF Try.prog:=by
 refine ⟨by kernel_rfl,fun x k hk=>?_⟩
 simp only [toC] at hk
 split at hk
 ·rename_i a b c d e f p
  obtain ⟨h1,h2,hk⟩:=hk
  obtain ⟨a1,a2⟩:=h1
  obtain ⟨p1,p2⟩:=h2
  by_cases h:a<p
  ·have hh:toG1 ⟨a,b,c,d,e,f⟩ p:=by
    rw [toG1_vc]
    simp only [and_true,true_and,Nat.zero_lt_one]
    exact ⟨fun h=>by omega,fun h'=>absurd h h'⟩
   exact ⟨_,funH_does nilS_cs nilS_x nilS_ic mixed hh,hk.1 h⟩
  ·have hh:toG2 ⟨a,b,c,d,e,f⟩ p:=by
    rw [toG2_vc]
    simp only [and_true,true_and,Nat.zero_lt_one]
    exact ⟨fun h'=>absurd h' h,fun h'=>by omega⟩
   exact ⟨_,funH_does nilS_cs nilS_x nilS_ic mixed hh,hk.2 h⟩
 ·exact hk.elim
theorem s1_ok:s1C.Ok Try.prog:=by
 refine ⟨by kernel_rfl,fun x k hk=>?_⟩
 simp only [s1C] at hk
 split at hk
 ·rename_i d s
  obtain ⟨⟨h1,h2⟩,⟨h3,h4⟩,hk⟩:=hk
  have hh:s1G d s:=by
   rw [s1G_vc,up_div (by omega) (by omega)]
   have hb:=div_bd (x:=-d) (s:=s) (B:=100000) (by omega) (by omega) (by omega) (by omega)
   have e:=up_div (d:=d) (s:=s) (by omega) (by omega)
   refine ⟨by omega,by omega,by omega,by omega,by omega,rfl,trivial⟩
  exact ⟨_,plainD nilS_cs nilS_x nilS_ic hh trivial,hk⟩
 ·exact hk.elim
theorem s2_ok:s2C.Ok Try.prog:=by
 refine ⟨by kernel_rfl,fun x k hk=>?_⟩
 simp only [s2C] at hk
 split at hk
 ·rename_i d s
  obtain ⟨⟨h1,h2⟩,⟨h3,h4⟩,hk⟩:=hk
  have hh:s2G d s:=by
   rw [s2G_vc,Int.tdiv_eq_ediv_of_nonneg (by omega)]
   have hb:=div_bd (x:=d) (s:=s) (B:=100000) (by omega) (by omega) (by omega) (by omega)
   refine ⟨by omega,by omega,rfl,trivial⟩
  exact ⟨_,plainD nilS_cs nilS_x nilS_ic hh trivial,hk⟩
 ·exact hk.elim
theorem stA_bd {a:Act} (h:okA a) {p:Int} (hp:bt 0 100000 p):-100000≤stA a p∧stA a p≤100000:=by
 have h1:=h.pr
 have h2:=h.st
 simp only [bt] at h1 h2 hp
 exact div_bd (by omega) (by omega) (by omega) (by omega)
theorem rt_true {a:Act} (h:okA a) {p:Int} (hp:bt 0 100000 p):rtG a p:=by
 rw [rtG_vc]
 have h1:=h.pr
 have h2:=h.st
 have h3:=h.gn
 have h4:=h.dv
 have hs:=stA_bd h hp
 have hm:=mul_bd h3.1 h3.2 (t:=stA a p) (by omega) (by omega)
 simp only [bt] at h1 h2 h3 h4 hp
 have e:-(p - a.pr)=a.pr - p:=by omega
 simp only [rI,kp1,ch1,e,and_true,true_and,Nat.zero_lt_one,implies_true,bt]
 unfold stA at hm hs
 refine ⟨by omega,by omega,fun h=>⟨by omega,by omega,by omega,by omega,by decide,rfl⟩,fun h=>⟨by omega,by omega,by omega,by omega,by decide,rfl⟩⟩
theorem rtX_ok {g:FuncId} (hc:callable Try.prog g=true) (h:∀ (a:Act) (p:Int),okA a→bt 0 100000 p→Does Try.prog g true (SV.denL [a.sv,i6 p]) (i6 (rtA a p)).den):(rtC g).Ok Try.prog:=by
 refine ⟨hc,fun x k hk=>?_⟩
 simp only [rtC] at hk
 split at hk
 ·rename_i a b c d e f p
  obtain ⟨h1,h2,hk⟩:=hk
  exact ⟨_,h _ p h1 h2,hk⟩
 ·exact hk.elim
theorem rt_cs:SoundS Try.prog (ctrsF [toC] (ctrs [s1C,s2C,kpC])):=ctrsF_sound (three_cs s1_ok s2_ok kp_ok) (by intro x hx; simp at hx; subst hx; exact to_ok)
theorem rt_ok:(rtC 31).Ok Try.prog:=rtX_ok (by kernel_rfl) fun a p h1 h2=>plainD rt_cs nilS_x nilS_ic (rt_true h1 h2) trivial
end Go.Proofs.Ytfobgmecnlehaaa
