import Derived.Test.YtfobgmecnlehaaaEcEcVEd
set_option linter.unusedVariables false
set_option linter.unusedSimpArgs false
namespace Go.Proofs.Ytfobgmecnlehaaa
open Go Go.Lg
attribute [local irreducible] bodyH funS
def pmV (a:Act) (n:Nat) (f:Nat→Yr):SV:=.clo (.func 51) [] [.ipt a.cells,.ipt [yrL n f]]
noncomputable def pmG (a:Act) (n:Nat) (f:Nat→Yr):Prop:=funH Try.prog (ctrs []) noX (ictrs []) noL noL 37 [a.sv,yrL n f] (pmV a n f)
noncomputable def pmC:Ctr:=⟨37,fun args k=>match args with
 | [.agg [.int .i64 a,.int .i64 b,.int .i64 c,.int .i64 d,.int .i64 e,.int .i64 f],.lst 3 n h]=>SV.lst 3 n h=yrL n (yrF h)∧k (pmV ⟨a,b,c,d,e,f⟩ n (yrF h))
 | _=>False⟩
noncomputable def itC:ICtr:=⟨51,fun fs us k=>match fs,us with
 | [],[.ipt [.int .i64 a,.int .i64 b,.int .i64 c,.int .i64 d,.int .i64 e,.int .i64 f],.ipt [.lst 3 n h]]=>SV.lst 3 n h=yrL n (yrF h)∧okA ⟨a,b,c,d,e,f⟩∧okYs n (yrF h)∧n≤16∧k n 2 fun j=>[i6 j,(pyJ ⟨a,b,c,d,e,f⟩ (yrF h) j).sv]
 | _,_=>False⟩
noncomputable def csP:CSpec:=ctrsF [pmC] (ctrs [erC 36,afC])
noncomputable def ruN (a:Act) (n:Nat) (f:Nat→Yr):Nat:=if erA a n f=0 then n else 0
def pyL (n:Nat) (g:Nat→Pay):SV:=.lst 6 n fun i=>(g i).sv
noncomputable def ruR (a:Act) (n:Nat) (f:Nat→Yr):SV:=.tup [pyL (ruN a n f) (pyJ a f),i6 (erA a n f)]
def slV:SV→Option Nat
 | .sl r _ _=>some r
 | _=>none
noncomputable def msV (i:Nat) (X:XS):Ms:=match X.row i with
 | some R=>[slV (R.f 0)]
 | none=>[none]
noncomputable def ruI (a:Act) (n:Nat) (f:Nat→Yr):ISpecR:={ τ:=Unit,rdt:=fun _ _ k=>k (),rdtOK:=fun _ _ _ h=>⟨(),h⟩,s:=fun _=>{ σ:=Nat,inv:=fun j z=>z=j,nr:=2,ms:=fun _ X=>msV 1 X,t:=mkF 26 [(7,.ptr 1 0 0)],X:=fun j=>mkX [vr 6 a.sv,vr 1 (.sl 2 0 j),rw' 6 j fun i=>(pyJ a f i).sv],rd:=fun _ _ k=>∃ z,k z,rdOK:=fun _ _ _ h=>h } }
noncomputable def ruG (a:Act) (n:Nat) (f:Nat→Yr):Prop:=funN Try.prog csP noX (ictrs [itC]) noL (oneL 0 (ruI a n f)) 16 [a.sv,yrL n f] (ruR a n f)
noncomputable def ruC (g:FuncId):Ctr:=⟨g,fun args k=>match args with
 | [.agg [.int .i64 a,.int .i64 b,.int .i64 c,.int .i64 d,.int .i64 e,.int .i64 f],.lst 3 n h]=>SV.lst 3 n h=yrL n (yrF h)∧n<1000∧k (ruR ⟨a,b,c,d,e,f⟩ n (yrF h))
 | _=>False⟩
noncomputable def mtJ (p q:Nat→Pay):Nat→Nat
 | 0=>0
 | k+1=>if mtJ p q k<k then mtJ p q k else @ite _ (p k=q k) (Classical.propDecidable _) (k+1) k
end Go.Proofs.Ytfobgmecnlehaaa

set_option maxRecDepth 100000
namespace Go.Proofs.Ytfobgmecnlehaaa
open Go Go.Lg
theorem pmG_vc (a:Ytfobgmecnlehaaa.Act) (n:Nat) (f:Nat→Yr):pmG a n f =
((0:Nat)<(1:Nat) ∧
 a.1=a.1 ∧
  a.2=a.2 ∧
   a.3=a.3 ∧
    a.4=a.4 ∧
     a.5=a.5 ∧
      a.6=a.6 ∧
       (0:Nat)<(1:Nat) ∧
        n=n∧(∀ (i:Nat),i<n→(f i).sv.den=(f i).sv.den∧True∧True∧True∧True)∧True):=by kernel_rfl
theorem ruG_vc (a:Ytfobgmecnlehaaa.Act) (n:Nat) (f:Nat→Yr):ruG a n f =
((0:Nat)<(1:Nat)∧(∀ (i:Nat),i<n→True∧True∧True∧True)∧(SV.lst (3:Nat) n fun i=>(f i).sv)=yrL n (yrF fun i=>(f i).sv)∧n<(1000:Nat)∧(¬erA (Ytfobgmecnlehaaa.Act.mk a.pr a.dv a.st a.gn a.mo a.ba) n (yrF fun i=>(f i).sv)=(0:Int)→(0:Nat)=ruN a n f∧erA (Ytfobgmecnlehaaa.Act.mk a.pr a.dv a.st a.gn a.mo a.ba) n (yrF fun i=>(f i).sv)=erA a n f∧True)∧(¬¬erA (Ytfobgmecnlehaaa.Act.mk a.pr a.dv a.st a.gn a.mo a.ba) n (yrF fun i=>(f i).sv)=(0:Int)→(0:Nat)<(1:Nat)∧(∀ (i:Nat),i<n→True∧True∧True∧True)∧(SV.lst (3:Nat) n fun i=>(f i).sv)=yrL n (yrF fun i=>(f i).sv)∧(∀ (i:Nat),i<n→True∧True∧True∧True)∧(SV.lst (3:Nat) n fun i=>(yrF (fun i=>(f i).sv) i).sv)=yrL n (yrF fun i=>(yrF (fun i=>(f i).sv) i).sv)∧okA (Ytfobgmecnlehaaa.Act.mk a.pr a.dv a.st a.gn a.mo a.ba)∧okYs n (yrF fun i
=> (yrF (fun i=>(f i).sv) i).sv)∧n≤(16:Nat)∧((True∧True∧True∧True∧True∧True∧True)∧((∀ (i:Nat),i<n→True∧True∧True∧True)∧True)∧∃ (z:Nat),z=(0:Nat)∧rE (0:Nat)∧rE (0:Nat)∧rE (Fn.func (51:FuncId))∧SV.denL (Ytfobgmecnlehaaa.Act.mk a.pr a.dv a.st a.gn a.mo a.ba).cells=SV.denL [SV.int IntKind.i64 a.pr,SV.int IntKind.i64 a.dv,SV.int IntKind.i64 a.st,SV.int IntKind.i64 a.gn,SV.int IntKind.i64 a.mo,SV.int IntKind.i64 a.ba]∧(True∧True∧True∧True∧True∧True∧True)∧SV.denL [yrL n (yrF fun i=>(f i).sv)]=SV.denL [SV.lst (3:Nat) n fun i=>(yrF (fun i=>(f i).sv) i).sv]∧((∀ (i:Nat),i<n→True∧True∧True∧True)∧True)∧a.1=a.1∧a.2=a.2∧a.3=a.3∧a.4=a.4∧a.5=a.5∧a.6=a.6∧rE (0:Nat)∧(0:Nat)=z∧z=(0:Nat)∧True)∧(∀ (j:Nat),j<n→∀ (z:Nat),z=j→(0:Nat)<(1 :
Nat)∧(0:Nat)<(1:Nat)∧True∧(∀ (i:Nat),i<(1:Nat)→rE true)∧rE (0:Nat)∧z=z∧(∀ (i:Nat),rE true)∧(z+(1:Nat))*(48:Nat)≤(140737488355328:Nat)∧z+(1:Nat)≤(4611686018427387904:Nat)∧∃ (z_1:Nat),z_1=j.succ∧a.1=a.1∧a.2=a.2∧a.3=a.3∧a.4=a.4∧a.5=a.5∧a.6=a.6∧rE (0:Nat)∧z+(1:Nat)=z_1∧z_1=z+(1:Nat)∧(∀ (i:Nat),i<z_1→rE (6:Nat)∧(if i<z then rtA a (f i).1 else rtA (Ytfobgmecnlehaaa.Act.mk a.pr a.dv a.st a.gn a.mo a.ba) (f j).1)=rtA a (f i).1∧(if i<z then duA a (f i) else duA (Ytfobgmecnlehaaa.Act.mk a.pr a.dv a.st a.gn a.mo a.ba) (yrF (fun i=>(yrF (fun i=>(f i).sv) i).sv) j))=duA a (f i)∧(if i<z then pdA a (stJ a f i) (f i) else pdA (Ytfobgmecnlehaaa.Act.mk a.pr a.dv a.st a.gn a.mo a.ba) (stJ (Ytfobgmecnlehaaa.Act.mk a.pr a.dv a.st a.gn a.mo a.ba) (yrF fun i=>(yrF (fun
i=>(f i).sv) i).sv) j) (yrF (fun i=>(yrF (fun i=>(f i).sv) i).sv) j))=pdA a (stJ a f i) (f i)∧(if i<z then arS a (stJ a f i) (f i) else arS (Ytfobgmecnlehaaa.Act.mk a.pr a.dv a.st a.gn a.mo a.ba) (stJ (Ytfobgmecnlehaaa.Act.mk a.pr a.dv a.st a.gn a.mo a.ba) (yrF fun i=>(yrF (fun i=>(f i).sv) i).sv) j) (yrF (fun i=>(yrF (fun i=>(f i).sv) i).sv) j))=arS a (stJ a f i) (f i)∧(if i<z then nB a (stJ a f i) (f i) else nB (Ytfobgmecnlehaaa.Act.mk a.pr a.dv a.st a.gn a.mo a.ba) (stJ (Ytfobgmecnlehaaa.Act.mk a.pr a.dv a.st a.gn a.mo a.ba) (yrF fun i=>(yrF (fun i=>(f i).sv) i).sv) j) (yrF (fun i=>(yrF (fun i=>(f i).sv) i).sv) j))=nB a (stJ a f i) (f i)∧(if i<z then (stJ a f i).1+(f i).3 - pdA a (stJ a f i) (f i) - nB a (stJ a f i) (f i) else (stJ (Ytfobgmecnlehaaa.Act.mk a.pr a.dv a.st a.gn a.mo a.ba) (yrF fun i=>(yrF (fun i=>(f i).sv) i).sv) j).1+(f
j).3 - pdA (Ytfobgmecnlehaaa.Act.mk a.pr a.dv a.st a.gn a.mo a.ba) (stJ (Ytfobgmecnlehaaa.Act.mk a.pr a.dv a.st a.gn a.mo a.ba) (yrF fun i=>(yrF (fun i=>(f i).sv) i).sv) j) (yrF (fun i=>(yrF (fun i=>(f i).sv) i).sv) j) - nB (Ytfobgmecnlehaaa.Act.mk a.pr a.dv a.st a.gn a.mo a.ba) (stJ (Ytfobgmecnlehaaa.Act.mk a.pr a.dv a.st a.gn a.mo a.ba) (yrF fun i=>(yrF (fun i=>(f i).sv) i).sv) j) (yrF (fun i=>(yrF (fun i=>(f i).sv) i).sv) j))=(stJ a f i).1+(f i).3 - pdA a (stJ a f i) (f i) - nB a (stJ a f i) (f i)∧True)∧True)∧∀ (z:Nat),z=n→(0:Nat)<(1:Nat)∧z=ruN a n f∧(0:Nat)+ruN a n f≤z∧(∀ (i:Nat),i<ruN a n f→rE (6:Nat)∧rE (6:Nat)∧rtA a (f (i+(0:Nat))).1=rtA a (f i).1∧duA a (f (i+(0:Nat)))=duA a (f i)∧pdA a (stJ a f (i+(0:Nat))) (f (i+(0:Nat)))=pdA a (stJ a f i) (f i)∧arS a (stJ a f (i+(0:Nat))) (f (i
+ (0:Nat)))=arS a (stJ a f i) (f i)∧nB a (stJ a f (i+(0:Nat))) (f (i+(0:Nat)))=nB a (stJ a f i) (f i)∧(stJ a f (i+(0:Nat))).1+(f (i+(0:Nat))).3 - pdA a (stJ a f (i+(0:Nat))) (f (i+(0:Nat))) - nB a (stJ a f (i+(0:Nat))) (f (i+(0:Nat)))=(stJ a f i).1+(f i).3 - pdA a (stJ a f i) (f i) - nB a (stJ a f i) (f i)∧True)∧(0:Int)=erA a n f∧True)):=by kernel_rfl
end Go.Proofs.Ytfobgmecnlehaaa

namespace Go.Proofs.Ytfobgmecnlehaaa
open Go Go.Lg
attribute [local irreducible] bodyH funS
def zP:Pay:=⟨0,0,0,0,0,0⟩
def sL (b:Int) (n:Nat) (g:Nat→Int):Lg:=⟨b,0,n,g⟩
def stV (b:Int) (n:Nat) (g:Nat→Int):SV:=.agg [i6 b,inL n g]
def yeR (a:Act) (s:Lg) (y:Yr):SV:=.tup [(py a s y).sv,stV (nB a s y) (nN a s) (arF (nx a s y))]
def p3 (a:Act) (s:Lg) (y:Yr):SV:=.agg [i6 (rtA a y.pr),i6 (duA a y),i6 (pdA a s y),i6 0,i6 0,i6 0]
noncomputable def yeF (l:List (Nat × SV)):FS:=mkF 118 ([(3,.ptr 0 0 0),(4,.ptr 1 0 0),(5,.ptr 2 0 0),(6,.ptr 3 0 0),(7,.ptr 4 0 0),(8,.ptr 5 0 0)] ++ l)
noncomputable def yeX (a:Act) (b:Int) (n:Nat) (g:Nat→Int) (y:Yr) (r:Option SRow):XS:=mkX [vr 6 a.sv,vr 2 (stV b n g),vr 3 y.sv,vr 6 zP.sv,vr 2 (.agg [i6 0,.val (.slice none 0 0)]),vr 6 (p3 a (sL b n g) y),r]
def balA (a:Act) (s:Lg) (y:Yr):Int:=s.ba+y.pf - pdA a s y
noncomputable def msS (i:Nat):FS→XS→Ms:=fun t _=>(match sget 118 t i with | .sl r _ _=>[some r] | _=>[none])
noncomputable def yeZ (a:Act) (b:Int) (n:Nat) (g:Nat→Int) (y:Yr):HSpec :=
 { toLSpec:={ σ:=Nat,inv:=fun o=>o+nN a (sL b n g)=n+1,μ:=fun o=>0,nr:=6,ms:=msS 12,t:=fun o=>mkF 118 [(6,.ptr 3 0 0),(7,.ptr 4 0 0)],X:=fun o=>mkX [vr 6 a.sv,vr 2 (stV b n g),vr 3 y.sv,vr 6 (py a (sL b n g) y).sv,vr 2 (.agg [i6 (nB a (sL b n g) y),.sl 6 o (n+1 - o)]),vr 6 (py a (sL b n g) y).sv,rw' 1 (n+1) fun i=>i6 (nF a (sL b n g) y i)],rd:=fun _ _ k=>∃ z,k z,rdOK:=fun _ _ _ h=>h },D:=[(0,5),(2,5),(5,3),(6,4)] }
noncomputable def yeG (a:Act) (b:Int) (n:Nat) (g:Nat→Int) (y:Yr):Prop:=funN Try.prog (ctrs [rtC 33,suC 40]) noX (ictrs [])
 (twoL 0 { toLSpec:={ σ:=Nat,inv:=fun k=>k≤n,μ:=fun k=>n - k,nr:=6,ms:=msS 12,t:=fun k=>yeF [(9,i6 (balA a (sL b n g) y)),(10,i6 (mJ g (pmA a (sL b n g) y) k)),(11,i6 (duA a y - odA a (sL b n g) y)),(12,.sl 6 0 k),(13,i6 k)],X:=fun k=>yeX a b n g y (rw' 1 k fun i=>i6 (lJ g (pmA a (sL b n g) y) i)),rd:=fun _ _ k=>∃ z,k z,rdOK:=fun _ _ _ h=>h } } <|
 twoL 1023 (yeZ a b n g y) <|
 oneL 2 { toLSpec:={ σ:=Nat,inv:=fun o=>o+nN a (sL b n g)≤n+1,μ:=fun o=>n+1 - o,nr:=6,ms:=msS 12,t:=fun o=>yeF [(9,i6 (balA a (sL b n g) y)),(12,.sl 6 o (n+1 - o))],X:=fun o=>yeX a b n g y (rw' 1 (n+1) fun i=>i6 (nF a (sL b n g) y i)),rd:=fun _ _ k=>∃ z,k z,rdOK:=fun _ _ _ h=>h } }) noL
 39 [a.sv,stV b n g,y.sv] (yeR a (sL b n g) y)
noncomputable def yeC:Ctr:=⟨39,fun args k=>match args with
 | [.agg [.int .i64 a,.int .i64 b,.int .i64 c,.int .i64 d,.int .i64 e,.int .i64 f],.agg [.int .i64 ba,.lst 1 n h],.agg [.int .i64 p,.int .i64 q,.int .i64 r]]=>SV.lst 1 n h=inL n (iOf h)∧okA ⟨a,b,c,d,e,f⟩∧okL ⟨a,b,c,d,e,f⟩ 15 (sL ba n (iOf h))∧okY ⟨p,q,r⟩∧k (yeR ⟨a,b,c,d,e,f⟩ (sL ba n (iOf h)) ⟨p,q,r⟩)
 | _=>False⟩
end Go.Proofs.Ytfobgmecnlehaaa

set_option maxRecDepth 100000
namespace Go.Proofs.Ytfobgmecnlehaaa
open Go Go.Lg
theorem yeG_vc (a:Ytfobgmecnlehaaa.Act) (b:Int) (n:Nat) (g:Nat→Int) (y:Yr):yeG a b n g y =
((0:Nat)<(1:Nat)∧(0:Nat)<(1:Nat)∧okA a∧bt (0:Int) (100000:Int) y.pr∧(0:Nat)<(1:Nat)∧(0:Nat)<(1:Nat)∧rI (y.2*rtA a y.1)∧((10000:Int)=(0:Int)→False)∧rI ((y.2*rtA a y.1).tdiv (10000:Int))∧(0:Nat)<(1:Nat)∧(0:Nat)<(1:Nat)∧rI (b+y.3)∧(0:Nat)<(1:Nat)∧(0:Nat)<(1:Nat)∧(∀ (i:Nat),i<n→True)∧(SV.lst (1:Nat) n fun i=>i6 (g i))=inL n (iOf fun i=>i6 (g i))∧n≤(10:Nat)∧nnL n (iOf fun i=>i6 (g i))∧rI ((y.2*rtA a y.1).tdiv (10000:Int)+sumJ (iOf fun i=>i6 (g i)) n)∧(0:Nat)<(1:Nat)∧rI (b+y.3 - max (0:Int) (min ((y.2*rtA a y.1).tdiv (10000:Int)+sumJ (iOf fun i=>i6 (g i)) n) (b+y.3)))∧(0:Nat)<(1:Nat)∧(0:Nat)<(1:Nat)∧(0:Nat)<(1:Nat)∧rI ((y.2*rtA a y.1).tdiv (10000:Int) - min (max (0:Int) (min ((y.2*rtA a y.1).tdiv (10000:Int)+sumJ (iOf fun i=>i6 (g i)) n) (b+y.3))) ((y.2*rtA a y.1).tdiv (10000:Int)))∧(0:Nat)<(1:Nat)∧rI (max (0:Int) (min ((y.2*rtA a y.1).tdiv (10000:Int)+sumJ (iOf fun i=>i6 (g i)) n) (b+y.3)) - min (max (0:Int) (min ((y.2*rtA a y.1).tdiv (10000:Int)+sumJ (iOf fun i=>i6 (g i)) n) (b+y.3))) ((y.2*rtA
a y.1).tdiv (10000:Int)))∧(∃ (z:Nat),z≤n∧rE (0:Nat)∧rE (0:Nat)∧rE (0:Nat)∧rE (0:Nat)∧rE (0:Nat)∧rE (0:Nat)∧rE (0:Nat)∧rE (0:Nat)∧rE (0:Nat)∧rE (0:Nat)∧rE (0:Nat)∧rE (0:Nat)∧b+y.3 - max (0:Int) (min ((y.2*rtA a y.1).tdiv (10000:Int)+sumJ (iOf fun i=>i6 (g i)) n) (b+y.3))=balA a (sL b n g) y∧max (0:Int) (min ((y.2*rtA a y.1).tdiv (10000:Int)+sumJ (iOf fun i=>i6 (g i)) n) (b+y.3)) - min (max (0:Int) (min ((y.2*rtA a y.1).tdiv (10000:Int)+sumJ (iOf fun i=>i6 (g i)) n) (b+y.3))) ((y.2*rtA a y.1).tdiv (10000:Int))=mJ g
(pmA a (sL b n g) y) z∧(y.2*rtA a y.1).tdiv (10000:Int) - min (max (0:Int) (min ((y.2*rtA a y.1).tdiv (10000:Int)+sumJ (iOf fun i=>i6 (g i)) n) (b+y.3))) ((y.2*rtA a y.1).tdiv (10000:Int))=duA a y - odA a (sL b n g) y∧rE (0:Nat)∧(0:Nat)=z∧(0:Int)=(↑z:Int)∧a.1=a.1∧a.2=a.2∧a.3=a.3∧a.4=a.4∧a.5=a.5∧a.6=a.6∧b=b∧n=n∧(∀ (i:Nat),i<n→rE ((i6 (g i)).den)∧True)∧y.1=y.1∧y.2=y.2∧y.3=y.3∧rE (0:Int)∧rE (0:Int)∧rE (0:Int)∧rE (0:Int)∧rE (0:Int)∧rE (0:Int)∧rE (0:Int)∧rE (Value.slice none (0:Nat) (0:Nat))∧rtA a y.1=rtA a y.1∧(y.2*rtA
a y.1).tdiv (10000:Int)=duA a y∧max (0:Int) (min ((y.2*rtA a y.1).tdiv (10000:Int)+sumJ (iOf fun i=>i6 (g i)) n) (b+y.3))=pdA a (sL b n g) y∧rE (0:Int)∧rE (0:Int)∧rE (0:Int)∧z=(0:Nat)∧True)∧∀ (z:Nat),z≤n→(0:Nat)<(1:Nat)∧((↑z:Int)<(↑n:Int)→(0:Nat)<(1:Nat)∧(0:Int)≤(↑z:Int)∧(↑z:Int)<(↑n:Int)∧rI (mJ g (pmA a (sL b n g) y) z - min (mJ g (pmA a (sL b n g) y) z) (g (↑z:Int).toNat))∧(0:Nat)<(1:Nat)∧(0:Int)≤(↑z:Int)∧(↑z:Int)<(↑n:Int)∧rI (g (↑z:Int).toNat - min (mJ g (pmA a (sL b n g) y) z) (g (↑z:Int).toNat))∧True∧(∀ (i:Nat),i<(1:Nat)→rE true)∧rE (0:Nat)∧z=z∧(∀ (i:Nat),rE true)∧(z+(1:Nat))*(8:Nat)≤(140737488355328:Nat)∧z+(1 :
Nat)≤(4611686018427387904:Nat)∧rI ((↑z:Int)+(1:Int))∧∃ (z_1:Nat),z_1≤n∧n - z_1<n - z∧rE (0:Nat)∧rE (0:Nat)∧rE (0:Nat)∧rE (0:Nat)∧rE (0:Nat)∧rE (0:Nat)∧rE (0:Nat)∧rE (0:Nat)∧rE (0:Nat)∧rE (0:Nat)∧rE (0:Nat)∧rE (0:Nat)∧rE (balA a (sL b n g) y)∧mJ g (pmA a (sL b n g) y) z - min (mJ g (pmA a (sL b n g) y) z) (g (↑z:Int).toNat)=mJ g (pmA a (sL b n g) y) z_1∧rE (duA a y - odA a (sL b n g) y)∧rE (0:Nat)∧z+(1:Nat)=z_1∧(↑z:Int)+(1:Int)=(↑z_1:Int)∧a.1=a.1∧a.2=a.2∧a.3=a.3∧a.4=a.4∧a.5=a.5∧a.6=a.6∧b=b∧n=n∧(∀ (i:Nat),i<n→rE ((i6 (g i)).den)∧True)∧y.1=y.1∧y.2=y.2∧y.3=y.3∧rE (0:Int)∧rE (0:Int)∧rE (0:Int)∧rE (0:Int)∧rE (0:Int)∧rE (0:Int)∧rE (0:Int)∧rE (Value.slice none (0:Nat) (0:Nat))∧rE (rtA a y.1)∧rE (duA
a y)∧rE (pdA a (sL b n g) y)∧rE (0:Int)∧rE (0:Int)∧rE (0:Int)∧z_1=z+(1:Nat)∧(∀ (i:Nat),i<z_1→rE (1:Nat)∧(if i<z then lJ g (pmA a (sL b n g) y) i else g (↑z:Int).toNat - min (mJ g (pmA a (sL b n g) y) z) (g (↑z:Int).toNat))=lJ g (pmA a (sL b n g) y) i∧True)∧True)∧(¬(↑z:Int)<(↑n:Int)→True∧(∀ (i:Nat),i<(1:Nat)→rE true)∧rE (0:Nat)∧z=z∧(∀ (i:Nat),rE true)∧(z+(1:Nat))*(8:Nat)≤(140737488355328:Nat)∧z+(1:Nat)≤(4611686018427387904:Nat)∧(∃ (z_1:Nat),z_1+nN a (sL b n g)≤n+(1:Nat)∧rE (0:Nat)∧rE (0:Nat)∧rE (0:Nat)∧rE (0:Nat)∧rE (0:Nat)∧rE (0:Nat)∧rE (0:Nat)∧rE (0:Nat)∧rE (0:Nat)∧rE (0:Nat)∧rE (0:Nat)∧rE (0:Nat)∧rE (balA a (sL b n g) y)∧(0:Nat)=z_1∧z+(1:Nat)=n+(1:Nat) - z_1∧a.1=a.1∧a.2=a.2∧a.3=a.3∧a.4 =
a.4∧a.5=a.5∧a.6=a.6∧b=b∧n=n∧(∀ (i:Nat),i<n→rE ((i6 (g i)).den)∧True)∧y.1=y.1∧y.2=y.2∧y.3=y.3∧rE (0:Int)∧rE (0:Int)∧rE (0:Int)∧rE (0:Int)∧rE (0:Int)∧rE (0:Int)∧rE (0:Int)∧rE (Value.slice none (0:Nat) (0:Nat))∧rE (rtA a y.1)∧rE (duA a y)∧rE (pdA a (sL b n g) y)∧rE (0:Int)∧rE (0:Int)∧rE (0:Int)∧n+(1:Nat)=z+(1:Nat)∧(∀ (i:Nat),i<n+(1:Nat)→rE (1:Nat)∧(if i<z then lJ g (pmA a (sL b n g) y) i else duA a y - odA a (sL b n g) y)=nF a (sL b n g) y i∧True)∧True)∧∀ (z:Nat),z+nN a (sL b n g)≤n+(1:Nat)→(0:Nat)<(1:Nat)∧(a.6<(↑(n+(1:Nat) - z):Int)→(0:Int)≤(1:Int)∧(1:Int)≤(↑(n+(1:Nat) - z):Int)∧(↑(n+(1:Nat) - z):Int)≤(↑(n+(1:Nat) - z):Int)∧∃ (z_1:Nat),z_1+nN a (sL b n g)≤n+(1:Nat)∧n+(1:Nat) -
z_1<n+(1:Nat) - z∧rE (0:Nat)∧rE (0:Nat)∧rE (0:Nat)∧rE (0:Nat)∧rE (0:Nat)∧rE (0:Nat)∧rE (0:Nat)∧rE (0:Nat)∧rE (0:Nat)∧rE (0:Nat)∧rE (0:Nat)∧rE (0:Nat)∧rE (balA a (sL b n g) y)∧z+Int.toNat (1:Int)=z_1∧((↑(n+(1:Nat) - z):Int) - (1:Int)).toNat=n+(1:Nat) - z_1∧a.1=a.1∧a.2=a.2∧a.3=a.3∧a.4=a.4∧a.5=a.5∧a.6=a.6∧b=b∧n=n∧(∀ (i:Nat),i<n→rE ((i6 (g i)).den)∧True)∧y.1=y.1∧y.2=y.2∧y.3=y.3∧rE (0:Int)∧rE (0:Int)∧rE (0:Int)∧rE (0:Int)∧rE (0:Int)∧rE (0:Int)∧rE (0:Int)∧rE (Value.slice none (0:Nat) (0:Nat))∧rE (rtA a y.1)∧rE (duA a y)∧rE (pdA a (sL b n g) y)∧rE (0:Int)∧rE (0:Int)∧rE (0:Int)∧rE (n+(1:Nat))∧(∀ (i:Nat),i<n+(1:Nat)→rE (1:Nat)∧rE (nF a (sL b n g) y i)∧True)∧True)∧(¬a.6<(↑(n+(1 :
Nat) - z):Int)→z+(n+(1:Nat) - z)≤n+(1:Nat)∧(∀ (i:Nat),i<n+(1:Nat) - z→rE (1:Nat)∧True)∧(SV.lst (1:Nat) (n+(1:Nat) - z) fun i=>i6 (nF a (sL b n g) y (i+z)))=inL (n+(1:Nat) - z) (iOf fun i=>i6 (nF a (sL b n g) y (i+z)))∧n+(1:Nat) - z≤(10:Nat)∧nnL (n+(1:Nat) - z) (iOf fun i=>i6 (nF a (sL b n g) y (i+z)))∧(0:Nat)<(1:Nat)∧rI (balA a (sL b n g) y - a.5)∧(0:Nat)<(1:Nat)∧rI (balA a (sL b n g) y - max (0:Int) (balA a (sL b n g) y - a.5))∧(True∧True∧(0:Nat)<(1:Nat)∧True∧True∧True∧True∧(0:Nat)<(1:Nat)∧True∧True∧True∧True∧True∧True∧True∧True∧∃ (z_1:Nat),z_1+nN a (sL b n g)=n+(1:Nat)∧rE (0:Nat)∧rE (0:Nat)∧rE (0:Nat)∧rE (0:Nat)∧a.1=a.1∧a.2=a.2∧a.3=a.3∧a.4=a.4∧a.5=a.5∧a.6=a.6∧b=b∧n=n∧(∀ (i:Nat),i<n→rE
((i6 (g i)).den)∧True)∧y.1=y.1∧y.2=y.2∧y.3=y.3∧rE (rtA a y.1)∧rE (duA a y)∧rE (pdA a (sL b n g) y)∧sumJ (iOf fun i=>i6 (nF a (sL b n g) y (i+z))) (n+(1:Nat) - z)=arS a (sL b n g) y∧balA a (sL b n g) y - max (0:Int) (balA a (sL b n g) y - a.5)=nB a (sL b n g) y∧max (0:Int) (balA a (sL b n g) y - a.5)=b+y.3 - pdA a (sL b n g) y - nB a (sL b n g) y∧balA a (sL b n g) y - max (0:Int) (balA a (sL b n g) y - a.5)=nB a (sL b n g) y∧z=z_1∧n+(1:Nat) - z=n+(1:Nat) - z_1∧rE (rtA a y.1)∧rE (duA a y)∧rE (pdA a (sL b n g) y)∧sumJ (iOf fun i=>i6 (nF a (sL b n g) y (i+z))) (n+(1:Nat) - z)=arS a (sL b n g) y∧balA a (sL b n g) y - max (0:Int) (balA a (sL b n g) y - a.5)=nB a (sL b n g) y∧max (0:Int) (balA a (sL b n g) y - a.5)=b+y.3 - pdA a (sL b n g) y - nB a (sL b n g) y∧rE (n+(1:Nat))∧(∀ (i :
Nat),i<n+(1:Nat)→rE (1:Nat)∧rE (nF a (sL b n g) y i)∧True)∧True)∧∀ (z:Nat),z+nN a (sL b n g)=n+(1:Nat)→(0:Nat)<(1:Nat)∧(0:Nat)<(1:Nat)∧rE (rtA a y.1)∧rE (duA a y)∧rE (pdA a (sL b n g) y)∧rE (arS a (sL b n g) y)∧rE (nB a (sL b n g) y)∧rE (b+y.3 - pdA a (sL b n g) y - nB a (sL b n g) y)∧rE (nB a (sL b n g) y)∧n+(1:Nat) - z=nN a (sL b n g)∧z+nN a (sL b n g)≤n+(1:Nat)∧(∀ (i:Nat),i<nN a (sL b n g)→rE (1:Nat)∧rE (1:Nat)∧nF a (sL b n g) y (i+z)=arF (nx a (sL b n g) y) i∧True)∧True))):=by kernel_rfl
end Go.Proofs.Ytfobgmecnlehaaa

set_option maxRecDepth 100000
namespace Go.Proofs.Ytfobgmecnlehaaa
open Go Go.Lg
attribute [local irreducible] funS bodyH
theorem arF_sL (b:Int) (n:Nat) (g:Nat→Int):arF (sL b n g)=g:=by
 funext i
 show g (0+i)=g i
 rw [Nat.zero_add]
theorem iOf_i6 (g:Nat→Int):(iOf fun i=>i6 (g i))=g:=rfl
theorem pd_sL (a:Act) (b:Int) (n:Nat) (g:Nat→Int) (y:Yr):max 0 (min (duA a y+sumJ g n) (b+y.pf))=pdA a (sL b n g) y:=by
 unfold pdA
 rw [arF_sL,Int.max_comm]; rfl
theorem od_sL (a:Act) (b:Int) (n:Nat) (g:Nat→Int) (y:Yr):min (pdA a (sL b n g) y) (duA a y)=odA a (sL b n g) y:=Int.min_comm _ _
theorem pm_sL (a:Act) (b:Int) (n:Nat) (g:Nat→Int) (y:Yr):pdA a (sL b n g) y - odA a (sL b n g) y=pmA a (sL b n g) y:=rfl
theorem bal_sL (a:Act) (b:Int) (n:Nat) (g:Nat→Int) (y:Yr):b+y.pf - pdA a (sL b n g) y=balA a (sL b n g) y:=rfl
theorem ye_true {a:Act} {b:Int} {n:Nat} {g:Nat→Int} {y:Yr} (ha:okA a) (hs:okL a 15 (sL b n g)) (hy:okY y):yeG a b n g y:=by
 rw [yeG_vc]
 have hd:=du_in a hy
 have ed:(y.cp*rtA a y.pr).tdiv 10000=duA a y:=Int.tdiv_eq_ediv_of_nonneg hd.1
 have hb:=bd_all ha hs hy (by omega)
 have hx:=ok_nx ha hs hy
 have hba:=ha.ba
 unfold bt at hba
 have hq:nnL n g:=by have:=hs.q; rw [arF_sL] at this; exact this
 have h5:n≤5:=hb.n
 have g0:=hb.d
 have g1:-20000000000000≤b:=hb.b0
 have g2:b≤1099511627776:=hb.b1
 have g3:=hb.y0
 have g4:=hb.y1
 have g5:=hb.p0
 have g6:=hb.p1
 have g7:=hb.s0
 have g8:=hb.s1
 have g9:=hb.o0
 have g10:=hb.op
 have g11:=hb.od
 have g12:=hb.m0
 have g13:=hb.m1
 rw [arF_sL] at g7 g8
 have g7:0≤sumJ g n:=g7
 have g8:sumJ g n≤5497558138880:=g8
 unfold nnB bt at g0
 have hm0:0≤pmA a (sL b n g) y∧pmA a (sL b n g) y≤7000000000000:=by unfold pmA; omega
 have hbal:balA a (sL b n g) y - max 0 (balA a (sL b n g) y - a.mo)=nB a (sL b n g) y:=by
  show _=min (balA a (sL b n g) y) a.mo
  omega
 have hnN:nN a (sL b n g)≤n+1:=by unfold nN; show min (n+1) _≤_; omega
 have hnN2:(nN a (sL b n g):Int)≤a.ba:=by unfold nN; show ((min (n+1) _:Nat):Int)≤_; omega
 have hnN3:¬ (a.ba:Int)<((n+1:Nat):Int)→nN a (sL b n g)=n+1:=by unfold nN; intro h; show min (n+1) _=_; omega
 have hnN4:∀ k:Nat,a.ba<(k:Int)→nN a (sL b n g)<k:=by unfold nN; intro k h; show min (n+1) _<_; omega
 have hnN5:∀ k:Nat,¬ a.ba<(k:Int)→k≤n+1→nN a (sL b n g)≤k→k=nN a (sL b n g):=by unfold nN; intro k h h1 h2; revert h2; show min (n+1) _≤_→_=min (n+1) _; omega
 have hB:b+y.pf - pdA a (sL b n g) y=balA a (sL b n g) y:=rfl
 have hBb:-22000000000000≤balA a (sL b n g) y∧balA a (sL b n g) y≤22000000000000:=by
  have:=hb.nb; have:=hb.nc
  have e:nB a (sL b n g) y=min (balA a (sL b n g) y) a.mo:=rfl
  unfold balA
  show -22000000000000≤b+y.pf - _∧b+y.pf - _≤_
  omega
 simp only [a_fold,rI,rE,and_true,true_and,Int.toNat_natCast,iOf_i6,ed,pd_sL,od_sL,pm_sL,bal_sL,implies_true,Nat.zero_lt_one,hbal]
 refine ⟨ha,hy.pr,by omega,by decide,by omega,by omega,rfl,by omega,hq,by omega,by omega,by omega,by omega,⟨0,by omega,rfl,rfl,rfl,rfl⟩,fun z hz=>⟨fun hl=>?_,fun hl=>?_⟩⟩
 ·have hm:=mJ_bd (f:=g) (m:=pmA a (sL b n g) y) hm0.1 (k:=z) fun i hi=>hq i (by omega)
  have hqz:=hq z (by omega)
  unfold nnB bt at hqz
  refine ⟨by omega,hl,by omega,by omega,hl,by omega,by omega,by omega,by omega,z+1,by omega,by omega,?_,rfl,rfl,rfl,fun i hi=>?_⟩
  ·show _=mJ g _ z - min (g z) (mJ g _ z)
   rw [Int.min_comm]
  ·by_cases h:i<z
   ·rw [if_pos h]
   ·have:i=z:=by omega
    subst this; rw [if_neg h]; unfold lJ; rw [Int.min_comm]
 ·have:z=n:=by omega
  subst this
  refine ⟨by omega,by omega,⟨0,by omega,rfl,by omega,rfl,fun i hi=>?_⟩,fun o ho=>⟨fun hl2=>?_,fun hl2=>?_⟩⟩
  ·show _=if i<z then lJ (arF (sL b z g)) _ i else _
   rw [arF_sL]; rfl
  ·have:=hnN4 (z+1 - o) hl2
   exact ⟨by omega,by omega,by omega,o+1,by omega,by omega,rfl,by omega⟩
  ·have ho2:=hnN5 (z+1 - o) hl2 (by omega) (by omega)
   have eo:o=z+1 - nN a (sL b z g):=by omega
   have ea:(iOf fun i=>i6 (nF a (sL b z g) y (i+o)))=arF (nx a (sL b z g) y):=by
    funext i
    rw [arF_nx,Nat.add_comm (_ - _) i,eo]; rfl
   have el:(SV.lst 1 (z+1 - o) fun i=>i6 (nF a (sL b z g) y (i+o)))=inL (z+1 - o) (arF (nx a (sL b z g) y)):=by rw [← ea]; rfl
   have eb:(fun i=>nF a (sL b z g) y (i+o))=arF (nx a (sL b z g) y):=ea
   have hsum:sumJ (fun i=>nF a (sL b z g) y (i+o)) (nN a (sL b z g))=arS a (sL b z g) y:=by rw [eb]; rfl
   rw [ho2]
   refine ⟨by omega,rfl,by omega,?_,by omega,by omega,⟨o,by omega,?_⟩,fun o' ho'=>⟨by omega,by omega,fun i hi=>?_⟩⟩
   ·rw [eb]; exact hx.q
   ·exact ⟨hsum,by omega,rfl,by omega,hsum,by omega⟩
   ·have:o'=o:=by omega
    subst this
    exact congrFun eb i
theorem yeR_flat (a:Act) (s:Lg) (y:Yr):flatS (yeR a s y):=by simp [yeR,stV,inL,Pay.sv,flatS,flatSL,i6,SV.cells,scS]
theorem ye_ok:yeC.Ok Try.prog:=by
 refine ⟨by kernel_rfl,fun x k hk=>?_⟩
 simp only [yeC] at hk
 split at hk
 ·rename_i a b c d e f ba n h p q r
  obtain ⟨hf,h1,h2,h3,hk⟩:=hk
  have hh:=ye_true h1 h2 h3
  unfold yeG stV at hh
  rw [← hf] at hh
  exact ⟨_,newD (two_cs rr_ok sq_ok) nilS_x nilS_ic hh (yeR_flat _ _ _),hk⟩
 ·exact hk.elim
theorem pm_true (a:Act) (n:Nat) (f:Nat→Yr):pmG a n f:=by
 rw [pmG_vc]
 simp only [and_true,true_and,implies_true,Nat.zero_lt_one]
theorem pm_ok:pmC.OkF Try.prog:=by
 refine ⟨by kernel_rfl,fun x k hk=>?_⟩
 simp only [pmC] at hk
 split at hk
 ·rename_i a b c d e f n h
  obtain ⟨hf,hk⟩:=hk
  have hh:=pm_true ⟨a,b,c,d,e,f⟩ n (yrF h)
  unfold pmG at hh
  rw [← hf] at hh
  exact ⟨_,funH_does nilS_cs nilS_x nilS_ic mixed hh,hk⟩
 ·exact hk.elim
theorem csP_sound:SoundS Try.prog csP:=ctrsF_sound (two_cs fa_ok af_ok) (by intro x hx; simp at hx; subst hx; exact pm_ok)
theorem csI_sound:SoundS Try.prog csI:=three_cs du_ok kp_ok su_ok
theorem inl0 {Γ:Ghost} {γ:GS→Γ.S} {g:FuncId} {sp isp} {cx:CX} (h:SoundXH Try.prog Γ γ cx):SoundXH Try.prog Γ γ (inl Try.prog csI none (ictrs []) g sp isp cx):=inl_sound (ys:=none) csI_sound h trivial nilS_ic mixed
theorem it_ic:SoundIH Try.prog (ictrs [itC]):=ictrs_sound (by
 intro x hx
 simp at hx
 subst hx
 refine ⟨by kernel_rfl,fun fs us k hk=>?_⟩
 simp only [itC] at hk
 split at hk
 ·rename_i a b c d e f n h
  obtain ⟨hf,h1,h2,h3,hk⟩:=hk
  have key:=it_true h1 h2 h3
  unfold itG at key
  rw [← hf] at key
  have:=itH_ok csI_sound (fun Γ γ _=>inl0 (inl0 (inl0 noX_sound))) nilS_ic mixed key
  exact ⟨_,2,_,this,fun j hj=>rfl,hk⟩
 ·exact hk.elim)
end Go.Proofs.Ytfobgmecnlehaaa
