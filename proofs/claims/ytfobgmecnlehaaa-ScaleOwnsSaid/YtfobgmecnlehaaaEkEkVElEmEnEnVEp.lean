import Derived.Test.YtfobgmecnlehaaaEhEiEiVEj
import Derived.Test.YtfobgmecnlehaaaDcDcVDdDeDg
set_option linter.unusedVariables false
set_option linter.unusedSimpArgs false
namespace Go.Proofs.Ytfobgmecnlehaaa
open Go Go.Lg
attribute [local irreducible] bodyH funS
def pyOf:SV→Pay
 | .agg [.int _ a,.int _ b,.int _ c,.int _ d,.int _ e,.int _ f]=>⟨a,b,c,d,e,f⟩
 | _=>zP
def pyF (f:Nat→SV) (i:Nat):Pay:=pyOf (f i)
def eqP (m:Nat) (p q:Nat→Pay):Prop:=∀ i,i<m→p i=q i
noncomputable def ckM (a:Act) (n:Nat) (f:Nat→Yr) (m:Nat) (p:Nat→Pay):Nat:=mtJ p (pyJ a f) (min m n)
noncomputable def ckE (a:Act) (n:Nat) (f:Nat→Yr) (m:Nat) (p:Nat→Pay):Int:=if erA a n f=0 then (if ckM a n f m p<min m n then 11 else if m<n then 4 else if n<m then 11 else 0) else erA a n f
noncomputable def ckN (a:Act) (n:Nat) (f:Nat→Yr) (m:Nat) (p:Nat→Pay):Int:=if erA a n f=0 then (ckM a n f m p:Int) else 0
noncomputable def ckR (a:Act) (n:Nat) (f:Nat→Yr) (m:Nat) (p:Nat→Pay):SV:=two (ckN a n f m p) (ckE a n f m p)
noncomputable def ckI (a:Act) (n:Nat) (f:Nat→Yr) (m:Nat) (p:Nat→Pay):ISpecR:={ τ:=Unit,rdt:=fun _ _ k=>k (),rdtOK:=fun _ _ _ h=>⟨(),h⟩,s:=fun _=>{ σ:=Nat,inv:=fun j z=>z=j∧j≤m∧eqP j p (pyJ a f),nr:=4,ms:=fun _ _=>[],t:=mkF 43 [(1,yrL n f),(3,.ptr 0 0 0),(5,.ptr 1 0 0),(6,.ptr 2 0 0),(7,.ptr 3 0 0)],X:=fun _=>mkX [vr 6 a.sv,vr 1 (pyL m p),vr 1 (i6 0),vr 1 (i6 0)],rd:=fun _ _ k=>∃ z,k z,rdOK:=fun _ _ _ h=>h } }
noncomputable def ckG (a:Act) (n:Nat) (f:Nat→Yr) (m:Nat) (p:Nat→Pay):Prop:=funH Try.prog csP noX (ictrs [itC]) noL (oneL 0 (ckI a n f m p)) 18 [a.sv,yrL n f,pyL m p] (ckR a n f m p)
noncomputable def ckC (g:FuncId):Ctr:=⟨g,fun args k=>match args with
 | [.agg [.int .i64 a,.int .i64 b,.int .i64 c,.int .i64 d,.int .i64 e,.int .i64 f],.lst 3 n h,.lst 6 m g]=>SV.lst 3 n h=yrL n (yrF h)∧SV.lst 6 m g=pyL m (pyF g)∧n<1000∧m<1000∧k (ckR ⟨a,b,c,d,e,f⟩ n (yrF h) m (pyF g))
 | _=>False⟩
noncomputable def paG (n:Nat) (p:Nat→Pay) (m:Nat) (q:Nat→Pay):Prop:=funH Try.prog (ctrs []) noX (ictrs []) (oneL 0 (natH (fun k=>k≤n∧n=m∧eqP k p q) (fun k=>n - k) 0 (fun k=>mkF 26 [(0,pyL n p),(1,pyL m q),(5,i6 k)]) (fun _=>mkX []) fun _=>none)) noL 22 [pyL n p,pyL m q] (.dec (n=m∧eqP n p q) (Classical.propDecidable _))
noncomputable def paC:Ctr:=⟨22,fun args k=>match args with
 | [.lst 6 n g,.lst 6 m h]=>SV.lst 6 n g=pyL n (pyF g)∧SV.lst 6 m h=pyL m (pyF h)∧n<1000∧m<1000∧k (.dec (n=m∧eqP n (pyF g) (pyF h)) (Classical.propDecidable _))
 | _=>False⟩
def clA (a:Act) (f:Nat→Yr) (k:Nat):Int:=duA a (f k)+sumJ (arF (stJ a f k)) (stJ a f k).n
open Classical in
noncomputable def neE (a:Act) (n:Nat) (f:Nat→Yr) (y:Int):Int:=if erA a n f=0 then (if bt 0 ((n:Int) - 1) y then (if clA a f y.toNat=0 then 4 else 0) else 2) else erA a n f
noncomputable def neN (a:Act) (n:Nat) (f:Nat→Yr) (y:Int):Int:=if neE a n f y=0 then clA a f y.toNat - (stJ a f y.toNat).ba else 0
def atJ (a:Act) (f:Nat→Yr):Nat→Pay
 | 0=>zP
 | j+1=>pyJ a f j
def bfJ (a:Act) (f:Nat→Yr):Nat→Pay
 | 0=>zP
 | j+1=>atJ a f j
noncomputable def neI (a:Act) (f:Nat→Yr):ISpecR:={ τ:=Unit,rdt:=fun _ _ k=>k (),rdtOK:=fun _ _ _ h=>⟨(),h⟩,s:=fun _=>{ σ:=Nat,inv:=fun j z=>z=j,nr:=3,ms:=fun _ _=>[],t:=mkF 48 [(9,.ptr 1 0 0),(10,.ptr 2 0 0)],X:=fun j=>mkX [vr 6 a.sv,vr 6 (bfJ a f j).sv,vr 6 (atJ a f j).sv],rd:=fun _ _ k=>∃ z,k z,rdOK:=fun _ _ _ h=>h } }
noncomputable def neG (a:Act) (n:Nat) (f:Nat→Yr) (y:Int):Prop:=funH Try.prog csP noX (ictrs [itC]) noL (oneL 0 (neI a f)) 20 [a.sv,yrL n f,i6 y] (two (neN a n f y) (neE a n f y))
noncomputable def neC (g:FuncId):Ctr:=⟨g,fun args k=>match args with
 | [.agg [.int .i64 a,.int .i64 b,.int .i64 c,.int .i64 d,.int .i64 e,.int .i64 f],.lst 3 n h,.int .i64 y]=>SV.lst 3 n h=yrL n (yrF h)∧n<1000∧k (two (neN ⟨a,b,c,d,e,f⟩ n (yrF h) y) (neE ⟨a,b,c,d,e,f⟩ n (yrF h) y))
 | _=>False⟩
end Go.Proofs.Ytfobgmecnlehaaa

set_option maxRecDepth 100000
namespace Go.Proofs.Ytfobgmecnlehaaa
open Go Go.Lg
theorem ckG_vc (a:Ytfobgmecnlehaaa.Act) (n:Nat) (f:Nat→Yr) (m:Nat) (p:Nat→Pay):ckG a n f m p =
((0:Nat)<(1:Nat)∧(∀ (i:Nat),i<n→True∧True∧True∧True)∧(SV.lst (3:Nat) n fun i=>(f i).sv)=yrL n (yrF fun i=>(f i).sv)∧n<(1000:Nat)∧(¬erA a n (yrF fun i=>(f i).sv)=(0:Int)→(0:Nat)<(1:Nat)∧(0:Nat)<(1:Nat)∧(0:Int)=ckN a n f m p∧erA a n (yrF fun i=>(f i).sv)=ckE a n f m p∧True)∧(¬¬erA a n (yrF fun i=>(f i).sv)=(0:Int)→(0:Nat)<(1:Nat)∧(∀ (i:Nat),i<n→True∧True∧True∧True)∧(SV.lst (3:Nat) n fun i=>(f i).sv)=yrL n (yrF fun i=>(f i).sv)∧(∀ (i:Nat),i<n→True∧True∧True∧True)∧(SV.lst (3:Nat) n fun i=>(yrF (fun i=>(f i).sv) i).sv)=yrL n (yrF fun i=>(yrF (fun i=>(f i).sv) i).sv)∧okA
a∧okYs n (yrF fun i=>(yrF (fun i=>(f i).sv) i).sv)∧n≤(16:Nat)∧((∀ (i:Nat),i<n→True∧True∧True∧True)∧(True∧True∧True∧True∧True∧True∧True)∧((∀ (i:Nat),i<n→True∧True∧True∧True)∧True)∧∃ (z:Nat),(z=(0:Nat)∧(0:Nat)≤m∧eqP (0:Nat) p (pyJ a f))∧n=n∧(∀ (i:Nat),i<n→rE ((f i).sv.den)∧True∧True∧True∧True)∧rE (0:Nat)∧rE (0:Nat)∧rE (0:Nat)∧rE (0:Nat)∧rE (0:Nat)∧rE (0:Nat)∧rE (0:Nat)∧rE (0:Nat)∧rE (Fn.func (51:FuncId))∧SV.denL a.cells=SV.denL [SV.int IntKind.i64 a.pr,SV.int IntKind.i64 a.dv,SV.int IntKind.i64 a.st,SV.int IntKind.i64 a.gn,SV.int IntKind.i64 a.mo,SV.int IntKind.i64 a.ba]∧(True∧True∧True∧True∧True∧True∧True)∧SV.denL [yrL n (yrF
fun i=>(f i).sv)]=SV.denL [SV.lst (3:Nat) n fun i=>(yrF (fun i=>(f i).sv) i).sv]∧((∀ (i:Nat),i<n→True∧True∧True∧True)∧True)∧a.1=a.1∧a.2=a.2∧a.3=a.3∧a.4=a.4∧a.5=a.5∧a.6=a.6∧m=m∧(∀ (i:Nat),i<m→rE ((p i).sv.den)∧True∧True∧True∧True∧True∧True∧True)∧rE (0:Int)∧rE (0:Int)∧True)∧(∀ (j:Nat),j<n→∀ (z:Nat),z=j∧j≤m∧eqP j p (pyJ a f)→(0:Nat)<(1:Nat)∧((↑j:Int)=(↑m:Int)→(0:Nat)<(1:Nat)∧(0:Nat)<(1:Nat)∧(↑j:Int)=ckN a n f m p∧(4:Int)=ckE a n f m p∧True)∧(¬(↑j:Int)=(↑m:Int)→(0:Nat)<(1:Nat)∧(0:Int)≤(↑j:Int)∧(↑j:Int)<(↑m:Int)∧(0:Nat)<(1:Nat)∧(¬((p (↑j:Int).toNat).1=rtA a (f j).1∧(p (↑j:Int).toNat).2=duA a (yrF (fun i=>(yrF (fun i=>(f i).sv) i).sv) j)∧(p (↑j:Int).toNat).3=pdA a (stJ a (yrF fun i=>(yrF (fun i=>(f i).sv) i).sv) j) (yrF (fun i=>(yrF (fun i=>(f i).sv) i).sv) j)∧(p (↑j:Int).toNat).4=arS a (stJ a (yrF fun i=>(yrF (fun i=>(f i).sv) i).sv) j) (yrF (fun i=>(yrF (fun i=>(f i).sv) i).sv) j)∧(p (↑j:Int).toNat).5=nB a (stJ a (yrF fun i=>(yrF (fun i=>(f i).sv) i).sv) j) (yrF (fun i=>(yrF (fun i=>(f i).sv) i).sv) j)∧(p (↑j:Int).toNat).6=(stJ a (yrF fun i
=> (yrF (fun i=>(f i).sv) i).sv) j).1+(f j).3 - pdA a (stJ a (yrF fun i=>(yrF (fun i=>(f i).sv) i).sv) j) (yrF (fun i=>(yrF (fun i=>(f i).sv) i).sv) j) - nB a (stJ a (yrF fun i=>(yrF (fun i=>(f i).sv) i).sv) j) (yrF (fun i=>(yrF (fun i=>(f i).sv) i).sv) j)∧True)→(0:Nat)<(1:Nat)∧(0:Nat)<(1:Nat)∧(↑j:Int)=ckN a n f m p∧(11:Int)=ckE a n f m p∧True)∧(¬¬((p (↑j:Int).toNat).1=rtA a (f j).1∧(p (↑j:Int).toNat).2=duA a (yrF (fun i=>(yrF (fun i=>(f i).sv) i).sv) j)∧(p (↑j:Int).toNat).3=pdA
a (stJ a (yrF fun i=>(yrF (fun i=>(f i).sv) i).sv) j) (yrF (fun i=>(yrF (fun i=>(f i).sv) i).sv) j)∧(p (↑j:Int).toNat).4=arS a (stJ a (yrF fun i=>(yrF (fun i=>(f i).sv) i).sv) j) (yrF (fun i=>(yrF (fun i=>(f i).sv) i).sv) j)∧(p (↑j:Int).toNat).5=nB a (stJ a (yrF fun i=>(yrF (fun i=>(f i).sv) i).sv) j) (yrF (fun i=>(yrF (fun i=>(f i).sv) i).sv) j)∧(p (↑j:Int).toNat).6=(stJ a (yrF fun i=>(yrF (fun i=>(f i).sv) i).sv) j).1+(f j).3 - pdA a (stJ a (yrF fun i=>(yrF (fun i=>(f i).sv) i).sv) j) (yrF (fun i=>(yrF (fun i=>(f i).sv) i).sv) j) - nB a (stJ a (yrF fun i=>(yrF (fun i=>(f i).sv) i).sv) j) (yrF (fun i=>(yrF (fun i=>(f i).sv) i).sv) j)∧True)→∃ (z:Nat),(z=j.succ∧j.succ≤m∧eqP j.succ p (pyJ a f))∧a.1=a.1∧a.2=a.2∧a.3=a.3∧a.4=a.4∧a.5=a.5∧a.6=a.6∧m=m∧(∀ (i:Nat),i<m→rE ((p i).sv.den)∧True∧True∧True∧True∧True∧True∧True)∧rE (0:Int)∧rE (0:Int)∧True)))∧∀ (z:Nat),z=n∧n≤m∧eqP n p (pyJ a f)→(0:Nat)<(1:Nat)∧((↑n:Int)<(↑m:Int)→(0:Nat)<(1:Nat)∧(0:Nat)<(1:Nat)∧(↑n:Int)=ckN a n f m p∧(11:Int)=ckE a n f m p ∧
True)∧(¬(↑n:Int)<(↑m:Int)→(0:Nat)<(1:Nat)∧(0:Nat)<(1:Nat)∧(↑n:Int)=ckN a n f m p∧(0:Int)=ckE a n f m p∧True))):=by kernel_rfl
theorem paG_vc (n:Nat) (p:Nat→Pay) (m:Nat) (q:Nat→Pay):paG n p m q =
((¬(↑n:Int)=(↑m:Int)→(false=true↔n=m∧eqP n p q)∧True)∧(¬¬(↑n:Int)=(↑m:Int)→(∃ (z:Nat),(z≤n∧n=m∧eqP z p q)∧n=n∧(∀ (i:Nat),i<n→rE ((p i).sv.den)∧True∧True∧True∧True∧True∧True∧True)∧m=m∧(∀ (i:Nat),i<m→rE ((q i).sv.den)∧True∧True∧True∧True∧True∧True∧True)∧(0:Int)=(↑z:Int)∧True)∧∀ (z:Nat),z≤n∧n=m∧eqP z p q→((↑z:Int)<(↑n:Int)→(0:Int)≤(↑z:Int)∧(↑z:Int)<(↑n:Int)∧(0:Int)≤(↑z:Int)∧(↑z:Int)<(↑m:Int)∧(¬((p (↑z:Int).toNat).1=(q (↑z:Int).toNat).1∧(p (↑z:Int).toNat).2=(q (↑z:Int).toNat).2∧(p (↑z:Int).toNat).3=(q (↑z:Int).toNat).3∧(p (↑z:Int).toNat).4=(q (↑z:Int).toNat).4∧(p (↑z:Int).toNat).5=(q (↑z:Int).toNat).5∧(p (↑z:Int).toNat).6=(q (↑z:Int).toNat).6∧True)→(false=true↔n=m∧eqP n p q) ∧
True)∧(¬¬((p (↑z:Int).toNat).1=(q (↑z:Int).toNat).1∧(p (↑z:Int).toNat).2=(q (↑z:Int).toNat).2∧(p (↑z:Int).toNat).3=(q (↑z:Int).toNat).3∧(p (↑z:Int).toNat).4=(q (↑z:Int).toNat).4∧(p (↑z:Int).toNat).5=(q (↑z:Int).toNat).5∧(p (↑z:Int).toNat).6=(q (↑z:Int).toNat).6∧True)→rI ((↑z:Int)+(1:Int))∧∃ (z_1:Nat),(z_1≤n∧n=m∧eqP z_1 p q)∧n - z_1<n - z∧n=n∧(∀ (i:Nat),i<n→rE ((p i).sv.den)∧True∧True∧True∧True∧True∧True∧True)∧m=m∧(∀ (i:Nat),i<m→rE ((q i).sv.den)∧True∧True∧True∧True∧True∧True∧True)∧(↑z:Int)+(1:Int)=(↑z_1:Int)∧True))∧(¬(↑z:Int)<(↑n:Int)→(rE true↔n=m∧eqP n p q)∧True))):=by kernel_rfl
theorem neG_vc (a:Ytfobgmecnlehaaa.Act) (n:Nat) (f:Nat→Yr) (y:Int):neG a n f y =
((0:Nat)<(1:Nat)∧(∀ (i:Nat),i<n→True∧True∧True∧True)∧(SV.lst (3:Nat) n fun i=>(f i).sv)=yrL n (yrF fun i=>(f i).sv)∧n<(1000:Nat)∧(¬erA a n (yrF fun i=>(f i).sv)=(0:Int)→(0:Int)=neN a n f y∧erA a n (yrF fun i=>(f i).sv)=neE a n f y∧True)∧(¬¬erA a n (yrF fun i=>(f i).sv)=(0:Int)→rI ((↑n:Int) - (1:Int))∧True∧(∀ (i:Nat),i<(1:Nat)→True)∧SV.lst (1:Nat) (1:Nat) (chainF [SV.int IntKind.i64 y])=inL (1:Nat) (iOf (chainF [SV.int IntKind.i64 y]))∧(1:Nat)<(1000:Nat)∧(¬frL (0:Int) ((↑n:Int) - (1:Int)) (1:Nat) (iOf (chainF [SV.int IntKind.i64 y]))→(0:Int)=neN a n f y∧(2:Int)=neE a n f y∧True)∧(¬¬frL (0:Int) ((↑n :
Int) - (1:Int)) (1:Nat) (iOf (chainF [SV.int IntKind.i64 y]))→(0:Nat)<(1:Nat)∧rI (y+(1:Int))∧(0:Int)≤(0:Int)∧(0:Int)≤y+(1:Int)∧y+(1:Int)≤(↑n:Int)∧(∀ (i:Nat),i<(y+(1:Int) - (0:Int)).toNat→True∧True∧True∧True)∧(SV.lst (3:Nat) (y+(1:Int) - (0:Int)).toNat fun i=>(f (Int.toNat (0:Int)+i)).sv)=yrL (y+(1:Int) - (0:Int)).toNat (yrF fun i=>(f (Int.toNat (0:Int)+i)).sv)∧(∀ (i:Nat),i<(y+(1:Int) - (0:Int)).toNat→True∧True∧True∧True)∧(SV.lst (3:Nat) (y+(1:Int) - (0:Int)).toNat fun i=>(yrF (fun i=>(f (Int.toNat (0:Int)+i)).sv) i).sv)=yrL (y+(1:Int) - (0:Int)).toNat (yrF fun i=>(yrF (fun i=>(f (Int.toNat (0:Int)+i)).sv) i).sv)∧okA a∧okYs (y+(1:Int) - (0:Int)).toNat (yrF fun i=>(yrF (fun
i=>(f (Int.toNat (0:Int)+i)).sv) i).sv)∧(y+(1:Int) - (0:Int)).toNat≤(16:Nat)∧((True∧True∧True∧True∧True∧True∧True)∧((∀ (i:Nat),i<(y+(1:Int) - (0:Int)).toNat→True∧True∧True∧True)∧True)∧∃ (z:Nat),z=(0:Nat)∧rE (0:Nat)∧rE (0:Nat)∧rE (0:Nat)∧rE (0:Nat)∧rE (Fn.func (51:FuncId))∧SV.denL a.cells=SV.denL [SV.int IntKind.i64 a.pr,SV.int IntKind.i64 a.dv,SV.int IntKind.i64 a.st,SV.int IntKind.i64 a.gn,SV.int IntKind.i64 a.mo,SV.int IntKind.i64 a.ba]∧(True∧True∧True∧True∧True∧True∧True)∧SV.denL [yrL (y+(1:Int) - (0:Int)).toNat (yrF fun i=>(f (Int.toNat (0:Int)+i)).sv)]=SV.denL [SV.lst (3:Nat) (y+(1:Int) - (0:Int)).toNat fun i=>(yrF (fun i=>(f (Int.toNat (0:Int)+i)).sv) i).sv]∧((∀ (i:Nat),i<(y+(1 :
Int) - (0:Int)).toNat→True∧True∧True∧True)∧True)∧a.1=a.1∧a.2=a.2∧a.3=a.3∧a.4=a.4∧a.5=a.5∧a.6=a.6∧(0:Int)=(bfJ a f z).1∧(0:Int)=(bfJ a f z).2∧(0:Int)=(bfJ a f z).3∧(0:Int)=(bfJ a f z).4∧(0:Int)=(bfJ a f z).5∧(0:Int)=(bfJ a f z).6∧(0:Int)=(atJ a f z).1∧(0:Int)=(atJ a f z).2∧(0:Int)=(atJ a f z).3∧(0:Int)=(atJ a f z).4∧(0:Int)=(atJ a f z).5∧(0:Int)=(atJ a f z).6∧True)∧(∀ (j:Nat),j<(y+(1:Int) - (0:Int)).toNat→∀ (z:Nat),z=j→((0:Nat)<(1:Nat)∧((0:Nat)<(1:Nat)∧((∃ (z_1:Nat),z_1=j.succ∧a.1=a.1∧a.2=a.2∧a.3=a.3∧a.4=a.4∧a.5=a.5∧a.6=a.6∧(atJ a f z).1=(bfJ a f z_1).1∧(atJ a f z).2=(bfJ a f z_1).2∧(atJ a f z).3=(bfJ a f z_1).3∧(atJ a f z).4=(bfJ a f z_1).4∧(atJ a f z).5=(bfJ a f z_1).5∧(atJ a f z).6=(bfJ
a f z_1).6∧rtA a (f (Int.toNat (0:Int)+j)).1=(atJ a f z_1).1∧duA a (yrF (fun i=>(yrF (fun i=>(f (Int.toNat (0:Int)+i)).sv) i).sv) j)=(atJ a f z_1).2∧pdA a (stJ a (yrF fun i=>(yrF (fun i=>(f (Int.toNat (0:Int)+i)).sv) i).sv) j) (yrF (fun i=>(yrF (fun i=>(f (Int.toNat (0:Int)+i)).sv) i).sv) j)=(atJ a f z_1).3∧arS a (stJ a (yrF fun i=>(yrF (fun i=>(f (Int.toNat (0:Int)+i)).sv) i).sv) j) (yrF (fun i=>(yrF (fun i=>(f (Int.toNat (0:Int)+i)).sv) i).sv) j)=(atJ a f z_1).4∧nB a (stJ a (yrF fun i=>(yrF (fun i=>(f (Int.toNat (0:Int)+i)).sv) i).sv) j) (yrF (fun i=>(yrF (fun i=>(f (Int.toNat (0:Int)+i)).sv) i).sv) j)=(atJ a f z_1).5∧(stJ a (yrF fun i=>(yrF (fun i=>(f (Int.toNat (0:Int)+i)).sv) i).sv) j).1+(f (Int.toNat (0:Int)+j)).3 - pdA a (stJ a (yrF fun i=>(yrF (fun i=>(f (Int.toNat (0:Int)+i)).sv) i).sv) j) (yrF (fun i=>(yrF (fun i=>(f (Int.toNat (0:Int)+i)).sv) i).sv) j) - nB a (stJ a (yrF fun i=>(yrF (fun i=>(f (Int.toNat (0:Int)+i)).sv) i).sv) j) (yrF (fun i=>(yrF
(fun i=>(f (Int.toNat (0:Int)+i)).sv) i).sv) j)=(atJ a f z_1).6∧True)∧True)∧True)∧(((0:Nat)<(1:Nat)∧(∃ (z_1:Nat),z_1=j.succ∧a.1=a.1∧a.2=a.2∧a.3=a.3∧a.4=a.4∧a.5=a.5∧a.6=a.6∧(atJ a f z).1=(bfJ a f z_1).1∧(atJ a f z).2=(bfJ a f z_1).2∧(atJ a f z).3=(bfJ a f z_1).3∧(atJ a f z).4=(bfJ a f z_1).4∧(atJ a f z).5=(bfJ a f z_1).5∧(atJ a f z).6=(bfJ a f z_1).6∧rtA a (f (Int.toNat (0:Int)+j)).1=(atJ a f z_1).1∧duA a (yrF (fun i=>(yrF (fun i=>(f (Int.toNat (0:Int)+i)).sv) i).sv) j)=(atJ a f z_1).2∧pdA a (stJ a (yrF fun i=>(yrF (fun i=>(f (Int.toNat (0:Int)+i)).sv) i).sv) j) (yrF
(fun i=>(yrF (fun i=>(f (Int.toNat (0:Int)+i)).sv) i).sv) j)=(atJ a f z_1).3∧arS a (stJ a (yrF fun i=>(yrF (fun i=>(f (Int.toNat (0:Int)+i)).sv) i).sv) j) (yrF (fun i=>(yrF (fun i=>(f (Int.toNat (0:Int)+i)).sv) i).sv) j)=(atJ a f z_1).4∧nB a (stJ a (yrF fun i=>(yrF (fun i=>(f (Int.toNat (0:Int)+i)).sv) i).sv) j) (yrF (fun i=>(yrF (fun i=>(f (Int.toNat (0:Int)+i)).sv) i).sv) j)=(atJ a f z_1).5∧(stJ a (yrF fun i=>(yrF (fun i=>(f (Int.toNat (0:Int)+i)).sv) i).sv) j).1+(f (Int.toNat (0:Int)+j)).3 - pdA a
(stJ a (yrF fun i=>(yrF (fun i=>(f (Int.toNat (0:Int)+i)).sv) i).sv) j) (yrF (fun i=>(yrF (fun i=>(f (Int.toNat (0:Int)+i)).sv) i).sv) j) - nB a (stJ a (yrF fun i=>(yrF (fun i=>(f (Int.toNat (0:Int)+i)).sv) i).sv) j) (yrF (fun i=>(yrF (fun i=>(f (Int.toNat (0:Int)+i)).sv) i).sv) j)=(atJ a f z_1).6∧True)∧True)∧True)∧True)∧((0:Nat)<(1:Nat)∧((0:Nat)<(1:Nat)∧((∃ (z_1:Nat),z_1=j.succ∧a.1=a.1∧a.2=a.2∧a.3=a.3∧a.4=a.4∧a.5=a.5∧a.6=a.6∧(atJ a f z).1=(bfJ a f z_1).1∧(atJ a f z).2=(bfJ a f z_1).2∧(atJ a f z).3=(bfJ a f z_1).3∧(atJ a f z).4=(bfJ a f z_1).4∧(atJ a f z).5=(bfJ a f z_1).5∧(atJ a f z).6=(bfJ a f z_1).6∧rtA
a (f (Int.toNat (0:Int)+j)).1=(atJ a f z_1).1∧duA a (yrF (fun i=>(yrF (fun i=>(f (Int.toNat (0:Int)+i)).sv) i).sv) j)=(atJ a f z_1).2∧pdA a (stJ a (yrF fun i=>(yrF (fun i=>(f (Int.toNat (0:Int)+i)).sv) i).sv) j) (yrF (fun i=>(yrF (fun i=>(f (Int.toNat (0:Int)+i)).sv) i).sv) j)=(atJ a f z_1).3∧arS a (stJ a (yrF fun i=>(yrF (fun i=>(f (Int.toNat (0:Int)+i)).sv) i).sv) j) (yrF (fun i=>(yrF (fun i=>(f (Int.toNat (0:Int)+i)).sv) i).sv) j)=(atJ a f z_1).4∧nB a
(stJ a (yrF fun i=>(yrF (fun i=>(f (Int.toNat (0:Int)+i)).sv) i).sv) j) (yrF (fun i=>(yrF (fun i=>(f (Int.toNat (0:Int)+i)).sv) i).sv) j)=(atJ a f z_1).5∧(stJ a (yrF fun i=>(yrF (fun i=>(f (Int.toNat (0:Int)+i)).sv) i).sv) j).1+(f (Int.toNat (0:Int)+j)).3 - pdA a (stJ a (yrF fun i=>(yrF (fun i=>(f (Int.toNat (0:Int)+i)).sv) i).sv) j) (yrF (fun i=>(yrF (fun i=>(f (Int.toNat (0:Int)+i)).sv) i).sv) j) - nB a (stJ a (yrF fun i=>(yrF (fun i=>(f (Int.toNat (0:Int)+i)).sv) i).sv) j) (yrF (fun i=>(yrF (fun i=>(f
(Int.toNat (0:Int)+i)).sv) i).sv) j)=(atJ a f z_1).6∧True)∧True)∧True)∧True)∧True)∧∀ (z:Nat),z=(y+(1:Int) - (0:Int)).toNat→(0:Nat)<(1:Nat)∧(0:Nat)<(1:Nat)∧rI ((atJ a f z).2+(bfJ a f z).4)∧((atJ a f z).2+(bfJ a f z).4=(0:Int)→(0:Int)=neN a n f y∧(4:Int)=neE a n f y∧True)∧(¬(atJ a f z).2+(bfJ a f z).4=(0:Int)→(0:Nat)<(1:Nat)∧rI ((atJ a f z).2+(bfJ a f z).4 - (bfJ a f z).5)∧(atJ a f z).2+(bfJ a f z).4 - (bfJ a f z).5=neN a n f y∧(0:Int)=neE a n f y∧True)))):=by kernel_rfl
end Go.Proofs.Ytfobgmecnlehaaa

set_option maxRecDepth 100000
namespace Go.Proofs.Ytfobgmecnlehaaa
open Go Go.Lg
attribute [local irreducible] funS bodyH
theorem mt_spec (p q:Nat→Pay):∀ K,mtJ p q K≤K∧eqP (mtJ p q K) p q∧(mtJ p q K<K→p (mtJ p q K)≠q (mtJ p q K))
 | 0=>⟨Nat.le_refl _,fun i hi=>by have hi:i<0:=hi; omega,fun h=>by have h:(0:Nat)<0:=h; omega⟩
 | k+1=>by
  obtain ⟨h1,h2,h3⟩:=mt_spec p q k
  unfold mtJ
  by_cases h:mtJ p q k<k
  ·rw [if_pos h]
   exact ⟨by omega,h2,fun _=>h3 h⟩
  ·rw [if_neg h]
   have e:mtJ p q k=k:=by omega
   rw [e] at h2
   by_cases hh:p k=q k
   ·rw [if_pos hh]
    refine ⟨Nat.le_refl _,fun i hi=>?_,fun h=>by omega⟩
    by_cases hi':i<k
    ·exact h2 i hi'
    ·have:i=k:=by omega
     subst this; exact hh
   ·rw [if_neg hh]
    exact ⟨by omega,h2,fun _=>hh⟩
theorem mt_is {p q:Nat→Pay} {K c:Nat} (h1:c≤K) (h2:eqP c p q) (h3:c<K→p c≠q c):mtJ p q K=c:=by
 obtain ⟨a1,a2,a3⟩:=mt_spec p q K
 rcases Nat.lt_trichotomy (mtJ p q K) c with h | h | h
 ·exact absurd (h2 _ h) (a3 (by omega))
 ·exact h
 ·exact absurd (a2 _ h) (h3 (by omega))
theorem ck_e {a:Act} {n:Nat} {f:Nat→Yr} {m:Nat} {p:Nat→Pay} (h:erA a n f≠0):ckN a n f m p=0∧ckE a n f m p=erA a n f:=by
 unfold ckN ckE
 rw [if_neg h,if_neg h]; exact ⟨rfl,rfl⟩
theorem ck_is {a:Act} {n:Nat} {f:Nat→Yr} {m:Nat} {p:Nat→Pay} {c:Nat} (h:erA a n f=0) (h1:c≤m) (h0:c≤n) (h2:eqP c p (pyJ a f)) (h3:c<min m n→p c≠pyJ a f c) :
  ckN a n f m p=c∧ckE a n f m p=if c<min m n then 11 else if m<n then 4 else if n<m then 11 else 0:=by
 have e:ckM a n f m p=c:=mt_is (by omega) h2 h3
 unfold ckN ckE
 rw [if_pos h,if_pos h,e]; exact ⟨rfl,rfl⟩
theorem pay_iff (a:Act) (f:Nat→Yr) (j:Nat) (x:Pay):(x.rt=rtA a (f j).pr∧x.du=duA a (f j)∧x.pd=pdA a (stJ a f j) (f j)∧x.ar=arS a (stJ a f j) (f j)∧x.rs=nB a (stJ a f j) (f j)∧x.rb=(stJ a f j).ba+(f j).pf - pdA a (stJ a f j) (f j) - nB a (stJ a f j) (f j))↔x=pyJ a f j:=by
 obtain ⟨x1,x2,x3,x4,x5,x6⟩:=x
 constructor
 ·rintro ⟨h1,h2,h3,h4,h5,h6⟩
  simp only at h1 h2 h3 h4 h5 h6
  subst h1 h2 h3 h4 h5 h6; rfl
 ·intro h
  unfold pyJ py at h
  injection h with h1 h2 h3 h4 h5 h6
  exact ⟨h1,h2,h3,h4,h5,h6⟩
theorem pay_ext (x y:Pay):(x.rt=y.rt∧x.du=y.du∧x.pd=y.pd∧x.ar=y.ar∧x.rs=y.rs∧x.rb=y.rb)↔x=y:=by
 obtain ⟨x1,x2,x3,x4,x5,x6⟩:=x
 obtain ⟨y1,y2,y3,y4,y5,y6⟩:=y
 constructor
 ·rintro ⟨h1,h2,h3,h4,h5,h6⟩
  simp only at h1 h2 h3 h4 h5 h6
  subst h1 h2 h3 h4 h5 h6; rfl
 ·intro h
  injection h with h1 h2 h3 h4 h5 h6
  exact ⟨h1,h2,h3,h4,h5,h6⟩
theorem eqP_up {m:Nat} {p q:Nat→Pay} (h:eqP m p q) (h2:p m=q m):eqP (m+1) p q:=fun i hi=>by
 by_cases e:i<m
 ·exact h i e
 ·have:i=m:=by omega
  subst this; exact h2
theorem ck_true (a:Act) (n:Nat) (f:Nat→Yr) (m:Nat) (p:Nat→Pay) (hn:n<1000):ckG a n f m p:=by
 rw [ckG_vc]
 simp only [rI,rE,and_true,true_and,Nat.zero_lt_one,and_self,implies_true,a_fold,yr_fold,yrF_fold,yrF2,yrF1,Classical.not_not,Nat.add_zero,Nat.zero_add,Int.toNat_natCast,pay_iff]
 refine ⟨rfl,hn,fun h=>by obtain ⟨e1,e2⟩:=ck_e (m:=m) (p:=p) h; omega,fun h=>⟨rfl,rfl,?_⟩⟩
 obtain ⟨h1,h2,h3⟩:=erA_0 h
 refine ⟨h1,h3,h2,⟨0,⟨rfl,by omega,fun i hi=>by omega⟩,rfl,rfl⟩,fun j hj z ⟨hz,hjm,hq⟩=>⟨fun he=>?_,fun he=>⟨by omega,by omega,fun hc=>?_,fun hc=>⟨j+1,rfl,by omega,eqP_up hq hc⟩⟩⟩,fun z ⟨hz,hm,hq⟩=>⟨fun hl=>?_,fun hl=>?_⟩⟩
 ·obtain ⟨e1,e2⟩:=ck_is (m:=m) (p:=p) (c:=j) h hjm (by omega) hq (fun h=>by omega)
  rw [e1,e2,if_neg (by omega),if_pos (by omega)]; exact ⟨rfl,rfl⟩
 ·obtain ⟨e1,e2⟩:=ck_is (m:=m) (p:=p) (c:=j) h hjm (by omega) hq (fun _=>hc)
  rw [e1,e2,if_pos (by omega)]; exact ⟨rfl,rfl⟩
 ·obtain ⟨e1,e2⟩:=ck_is (m:=m) (p:=p) (c:=n) h hm (by omega) hq (fun h=>by omega)
  rw [e1,e2,if_neg (by omega),if_neg (by omega),if_pos (by omega)]; exact ⟨rfl,rfl⟩
 ·obtain ⟨e1,e2⟩:=ck_is (m:=m) (p:=p) (c:=n) h hm (by omega) hq (fun h=>by omega)
  rw [e1,e2,if_neg (by omega),if_neg (by omega),if_neg (by omega)]; exact ⟨rfl,rfl⟩
theorem ckX_ok {g:FuncId} (hc:callable Try.prog g=true) (h:∀ (a:Act) (n:Nat) (f:Nat→Yr) (m:Nat) (p:Nat→Pay),n<1000→m<1000→Does Try.prog g true (SV.denL [a.sv,yrL n f,pyL m p]) (ckR a n f m p).den):(ckC g).Ok Try.prog:=by
 refine ⟨hc,fun x k hk=>?_⟩
 simp only [ckC] at hk
 split at hk
 ·rename_i a b c d e f n h0 m g0
  obtain ⟨hf,hg,hn,hm,hk⟩:=hk
  have hh:=h ⟨a,b,c,d,e,f⟩ n (yrF h0) m (pyF g0) hn hm
  rw [← hf,← hg] at hh
  exact ⟨_,hh,hk⟩
 ·exact hk.elim
theorem ck_ok:(ckC 18).Ok Try.prog:=ckX_ok (by kernel_rfl) fun a n f m p hn _=>plainD csP_sound nilS_x it_ic (ck_true a n f m p hn) (two_plain _ _)
theorem pa_true (n:Nat) (p:Nat→Pay) (m:Nat) (q:Nat→Pay) (hn:n<1000):paG n p m q:=by
 rw [paG_vc]
 simp only [rI,rE,and_true,true_and,Nat.zero_lt_one,and_self,implies_true,Classical.not_not,Int.toNat_natCast,pay_ext,Bool.false_eq_true,true_iff]
 refine ⟨fun h=>fF fun k=>h (by omega),fun h=>⟨⟨0,⟨by omega,by omega,fun i hi=>by omega⟩,rfl⟩,fun z ⟨hz,hnm,hq⟩=>⟨fun hl=>⟨by omega,by omega,by omega,by omega,fun hc=>fF fun k=>hc (k.2 z (by omega)),fun hc=>⟨by omega,z+1,⟨by omega,by omega,eqP_up hq hc⟩,by omega,by omega⟩⟩,fun hl=>?_⟩⟩⟩
 have:z=n:=by omega
 subst this; exact ⟨hnm,hq⟩
theorem pa_ok:paC.Ok Try.prog:=by
 refine ⟨by kernel_rfl,fun x k hk=>?_⟩
 simp only [paC] at hk
 split at hk
 ·rename_i n g m h
  obtain ⟨hf,hg,hn,hm,hk⟩:=hk
  have hh:=pa_true n (pyF g) m (pyF h) hn
  unfold paG at hh
  rw [← hf,← hg] at hh
  exact ⟨_,plainD nilS_cs nilS_x nilS_ic hh trivial,hk⟩
 ·exact hk.elim
end Go.Proofs.Ytfobgmecnlehaaa

set_option maxRecDepth 100000
namespace Go.Proofs.Ytfobgmecnlehaaa
open Go Go.Lg
attribute [local irreducible] funS bodyH
theorem ne_e {a:Act} {n:Nat} {f:Nat→Yr} {y:Int} (h:erA a n f≠0):neN a n f y=0∧neE a n f y=erA a n f:=by
 have e:neE a n f y=erA a n f:=by unfold neE; rw [if_neg h]
 exact ⟨by unfold neN; rw [e,if_neg h],e⟩
theorem ne_2 {a:Act} {n:Nat} {f:Nat→Yr} {y:Int} (h:erA a n f=0) (h2:¬ bt 0 ((n:Int) - 1) y):neN a n f y=0∧neE a n f y=2:=by
 have e:neE a n f y=2:=by unfold neE; rw [if_pos h,if_neg h2]
 exact ⟨by unfold neN; rw [e,if_neg (by omega)],e⟩
theorem ne_4 {a:Act} {n:Nat} {f:Nat→Yr} {y:Int} (h:erA a n f=0) (h2:bt 0 ((n:Int) - 1) y) (h3:clA a f y.toNat=0):neN a n f y=0∧neE a n f y=4:=by
 have e:neE a n f y=4:=by unfold neE; rw [if_pos h,if_pos h2,if_pos h3]
 exact ⟨by unfold neN; rw [e,if_neg (by omega)],e⟩
theorem ne_0 {a:Act} {n:Nat} {f:Nat→Yr} {y:Int} (h:erA a n f=0) (h2:bt 0 ((n:Int) - 1) y) (h3:clA a f y.toNat≠0):neN a n f y=clA a f y.toNat - (stJ a f y.toNat).ba∧neE a n f y=0:=by
 have e:neE a n f y=0:=by unfold neE; rw [if_pos h,if_pos h2,if_neg h3]
 exact ⟨by unfold neN; rw [e,if_pos rfl],e⟩
theorem cl_bd {a:Act} {n:Nat} {f:Nat→Yr} {k:Nat} (ha:okA a) (hf:okYs n f) (hn:n≤16) (hk:k<n):0≤clA a f k∧clA a f k≤7000000000000∧-20000000000000≤(stJ a f k).ba∧(stJ a f k).ba≤1099511627776:=by
 have hb:=bd_all ha (st_ok ha hf (j:=k) (by omega)) (hf k hk) (by omega)
 have h1:=hb.d
 unfold nnB bt at h1
 have h2:=hb.s0
 have h3:=hb.s1
 have h4:=hb.b0
 have h5:=hb.b1
 unfold clA; omega
theorem bf_ar (a:Act) (f:Nat→Yr) (k:Nat):(bfJ a f (k+1)).ar=sumJ (arF (stJ a f k)) (stJ a f k).n:=by cases k <;> rfl
theorem bf_rs (a:Act) (f:Nat→Yr) (k:Nat):(bfJ a f (k+1)).rs=(stJ a f k).ba:=by cases k <;> rfl
theorem at_du (a:Act) (f:Nat→Yr) (k:Nat):(atJ a f (k+1)).du=duA a (f k):=rfl
theorem ne_true (a:Act) (n:Nat) (f:Nat→Yr) (y:Int) (hn:n<1000):neG a n f y:=by
 rw [neG_vc]
 simp only [rI,rE,and_true,true_and,Nat.zero_lt_one,and_self,implies_true,a_fold,yr_fold,yrF_fold,yrF2,yrF1,Classical.not_not,Nat.add_zero,Nat.zero_add,Int.toNat_natCast,fr1,ch1',Int.sub_zero,Int.toNat_zero]
 refine ⟨rfl,hn,fun h=>by obtain ⟨e1,e2⟩:=ne_e (y:=y) h; omega,fun h=>?_⟩
 obtain ⟨h1,h2,h3⟩:=erA_0 h
 refine ⟨by omega,by omega,fun hc=>by obtain ⟨e1,e2⟩:=ne_2 h hc; omega,fun hc=>?_⟩
 have hc':=hc
 unfold bt at hc'
 obtain ⟨k,rfl⟩:=Int.eq_ofNat_of_zero_le hc'.1
 have ek:((k:Int)+1).toNat=k+1:=by omega
 rw [ek]
 have hcl:=cl_bd h1 h3 h2 (k:=k) (by omega)
 refine ⟨by omega,by omega,by omega,by omega,rfl,rfl,h1,fun i hi=>h3 i (by omega),by omega,⟨0,rfl,rfl,rfl,rfl,rfl,rfl,rfl,rfl,rfl,rfl,rfl,rfl,rfl,rfl,rfl⟩,fun j hj z hz=>?_,fun z hz=>?_⟩
 ·subst hz
  exact ⟨z+1,rfl,rfl,rfl,rfl,rfl,rfl,rfl,rfl,rfl,rfl,rfl,rfl,rfl⟩
 ·subst hz
  rw [at_du,bf_ar,bf_rs]
  refine ⟨by unfold clA at hcl; omega,fun hz=>?_,fun hz=>⟨by unfold clA at hcl; omega,?_⟩⟩
  ·obtain ⟨e1,e2⟩:=ne_4 h hc (by unfold clA; exact hz)
   omega
  ·obtain ⟨e1,e2⟩:=ne_0 h hc (by unfold clA; exact hz)
   rw [e1,e2]; exact ⟨rfl,rfl⟩
theorem neX_ok {g:FuncId} (hc:callable Try.prog g=true) (h:∀ (a:Act) (n:Nat) (f:Nat→Yr) (y:Int),n<1000→Does Try.prog g true (SV.denL [a.sv,yrL n f,i6 y]) (two (neN a n f y) (neE a n f y)).den):(neC g).Ok Try.prog:=by
 refine ⟨hc,fun x k hk=>?_⟩
 simp only [neC] at hk
 split at hk
 ·rename_i a b c d e f n h0 y
  obtain ⟨hf,hn,hk⟩:=hk
  have hh:=h ⟨a,b,c,d,e,f⟩ n (yrF h0) y hn
  rw [← hf] at hh
  exact ⟨_,hh,hk⟩
 ·exact hk.elim
theorem ne_ok:(neC 20).Ok Try.prog:=neX_ok (by kernel_rfl) fun a n f y hn=>plainD csP_sound nilS_x it_ic (ne_true a n f y hn) (two_plain _ _)
end Go.Proofs.Ytfobgmecnlehaaa

namespace Go.Proofs.Ytfobgmecnlehaaa
open Go Go.Lg
attribute [local irreducible] bodyH funS
end Go.Proofs.Ytfobgmecnlehaaa

set_option maxRecDepth 100000
namespace Go.Proofs.Ytfobgmecnlehaaa
open Go Go.Lg
end Go.Proofs.Ytfobgmecnlehaaa

set_option maxRecDepth 100000
namespace Go.Proofs.Ytfobgmecnlehaaa
open Go Go.Lg
attribute [local irreducible] funS bodyH
theorem ru_le (a:Act) (n:Nat) (f:Nat→Yr):ruN a n f≤n:=by unfold ruN; split <;> omega
theorem pyF1 (g:Nat→Pay):(pyF fun i=>(g i).sv)=g:=rfl
theorem pyL1 (m:Nat) (g:Nat→Pay):(SV.lst 6 m fun i=>(g i).sv)=pyL m g:=rfl
end Go.Proofs.Ytfobgmecnlehaaa
