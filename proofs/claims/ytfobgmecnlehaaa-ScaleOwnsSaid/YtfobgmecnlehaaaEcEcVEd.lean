import Derived.Test.YtfobgmecnlehaaaEaEaVEb
set_option linter.unusedVariables false
set_option linter.unusedSimpArgs false
namespace Go.Proofs.Ytfobgmecnlehaaa
open Go Go.Lg
attribute [local irreducible] bodyH funS
def lgV (a:Act) (ba:Int) (s:Lg):SV:=.agg [.clo (.func 52) [a.sv] [],i6 a.mo,i6 a.ba,i6 ba,.sl 2 s.o s.n]
def lgR (s:Lg):Option SRow:=rw' 1 (s.o+s.n) fun i=>i6 (s.F i)
def zeP:SV:=.agg [i6 0,i6 0,i6 0,i6 0,i6 0,i6 0]
def slC:SV→Option Nat
 | .agg [_,_,_,_,.sl r _ _]=>some r
 | _=>none
noncomputable def ms1 (X:XS):Ms:=match X.row 1 with
 | some R=>[slC (R.f 0)]
 | none=>[none]
def pmA (a:Act) (s:Lg) (y:Yr):Int:=pdA a s y - odA a s y
noncomputable def paH (a:Act) (n:Nat) (f:Nat→Yr):HSpec :=
 { toLSpec:={ σ:=Nat × Nat,inv:=fun p=>p.1<n∧p.2≤(stJ a f p.1).n,μ:=fun p=>(stJ a f p.1).n - p.2,nr:=6,ms:=fun t _=>(match sget 29 t 5 with | .sl r _ _=>[some r] | _=>[none]),t:=fun p=>mkF 29 [(1,i6 (mJ (arF (stJ a f p.1)) (pmA a (stJ a f p.1) (f p.1)) p.2)),(5,.sl 6 0 p.2),(9,.sl 2 (stJ a f p.1).o (stJ a f p.1).n),(10,i6 (stJ a f p.1).n),(11,i6 p.2)],X:=fun p=>mkX [none,vr 5 (lgV a ((stJ a f p.1).ba+(f p.1).pf) (stJ a f p.1)),lgR (stJ a f p.1),vr 3 (f p.1).sv,vr 3 (f p.1).sv,vr 6 zeP,rw' 1 p.2 fun i=>i6 (lJ (arF (stJ a f p.1)) (pmA a (stJ a f p.1) (f p.1)) i)],rd:=fun _ _ k=>∃ z,k z,rdOK:=fun _ _ _ h=>h },par:=some ⟨fun _ _ k=>∃ y,k y,fun _ _ _ h=>h⟩,kinv:=fun y p=>p.1=y,q:=fun p=>some p.1 }
noncomputable def csI:CSpec:=ctrs [duC,kpC,suC 63]
noncomputable def cxI (a:Act) (n:Nat) (f:Nat→Yr):CX:=inl Try.prog csI none (ictrs []) 53 noL noL (inl Try.prog csI none (ictrs []) 64 (oneL 0 (paH a n f)) noL (inl Try.prog csI none (ictrs []) 65 noL noL noX))
noncomputable def itG (a:Act) (n:Nat) (f:Nat→Yr):Prop:=itH Try.prog csI (cxI a n f) (ictrs [])
 (oneL 0 { toLSpec:={ σ:=Nat,inv:=fun k=>k≤n,μ:=fun k=>n - k,nr:=2,ms:=fun _ X=>ms1 X,t:=fun k=>mkF 28 [(0,.yld 0),(1,.ipt a.cells),(2,.ipt [yrL n f]),(4,.ptr 1 0 0),(14,yrL n f),(15,i6 n),(16,i6 k)],X:=fun k=>mkX [none,vr 5 (lgV a (stJ a f k).ba (stJ a f k)),lgR (stJ a f k)],rd:=fun _ _ k=>∃ z,k z,rdOK:=fun _ _ _ h=>h },q:=fun k=>some k }) noL
 51 [] [.ipt a.cells,.ipt [yrL n f]] n fun j=>[i6 j,(pyJ a f j).sv]
end Go.Proofs.Ytfobgmecnlehaaa

set_option maxRecDepth 100000
namespace Go.Proofs.Ytfobgmecnlehaaa
open Go Go.Lg
def itG0 (a:Ytfobgmecnlehaaa.Act) (n:Nat) (f:Nat→Yr) (z:Nat) (zp9_2:Nat × Nat):Prop:=(True∧(∀ (i:Nat),i<(1:Nat)→rE true)∧rE (0:Nat)∧rE zp9_2.2∧(∀ (i:Nat),rE true)∧(zp9_2.2+(1:Nat))*(8:Nat)≤(140737488355328:Nat)∧zp9_2.2+(1:Nat)≤(4611686018427387904:Nat)∧rI ((↑(zp9_2.2+(1:Nat)):Int) - a.6)∧rE (↑(zp9_2.2+(1:Nat)):Int)∧(0:Int)≤max (0:Int) ((↑(zp9_2.2+(1:Nat)):Int) - a.6)∧max (0:Int) ((↑(zp9_2.2+(1:Nat)):Int) - a.6)≤(↑(zp9_2.2+(1:Nat)):Int)∧(↑(zp9_2.2+(1:Nat)):Int)≤(↑(zp9_2.2+(1:Nat)):Int)∧(0:Nat)<(1:Nat)∧rI ((stJ a f zp9_2.fst).1+(f zp9_2.fst).3 - max (mnJ (duA a (f (↑z:Int).toNat)+sumJ (iOf fun i=>i6 ((stJ a f z).F (i+(stJ a f z).o))) (stJ a f z).3) (iOf (chainF [SV.int IntKind.i64 ((stJ a f z).ba+(f (↑z:Int).toNat).pf)])) (1:Nat)) (0:Int))∧(0:Nat)<(1:Nat)∧(0:Nat)<(1:Nat)∧(0:Nat)<(1:Nat)∧rI ((stJ a f zp9_2.fst).1+(f zp9_2.fst).3 - max (mnJ (duA a (f (↑z:Int).toNat)+sumJ (iOf fun i=>i6 ((stJ a f z).F (i+(stJ a f z).o))) (stJ a f z).3) (iOf (chainF [SV.int IntKind.i64 ((stJ a f z).ba+(f (↑z:Int).toNat).pf)])) (1:Nat)) (0:Int) - min ((stJ a f zp9_2.fst).1+(f zp9_2.fst).3 - max (mnJ (duA a (f (↑z:Int).toNat)+sumJ (iOf fun i=>i6 ((stJ a f z).F (i+(stJ a f z).o))) (stJ a f z).3) (iOf (chainF [SV.int IntKind.i64 ((stJ a f z).ba+(f (↑z:Int).toNat).pf)])) (1:Nat)) (0:Int)) a.5)∧(0:Nat)<(1:Nat)∧(0:Nat)+(max (0:Int) ((↑(zp9_2.2+(1:Nat)):Int) - a.6)).toNat+((↑(zp9_2.2+(1:Nat)):Int) - max (0:Int) ((↑(zp9_2.2+(1:Nat)):Int) - a.6)).toNat≤zp9_2.2+(1:Nat)∧(∀ (i_3:Nat),i_3<((↑(zp9_2.2+(1:Nat)):Int) - max (0:Int) ((↑(zp9_2.2+(1:Nat)):Int) - a.6)).toNat→rE (1:Nat)∧True)∧(SV.lst (1:Nat) ((↑(zp9_2.snd+(1:Nat)):Int) - max (0:Int) ((↑(zp9_2.snd+(1:Nat)):Int) - a.ba)).toNat fun i=>(rowsK (Try.prog.cellsOf (3:Nat)) (zp9_2.snd+(1:Nat)) (appF zp9_2.snd (fun i=>i6 (lJ (arF (stJ a f zp9_2.fst)) (pmA a (stJ a f zp9_2.fst) (f zp9_2.fst)) i)) (chainF [SV.int IntKind.i64 (duA a (f (↑z:Int).toNat) - min (duA a (f (↑z:Int).toNat)) (max (mnJ (duA a (f (↑z:Int).toNat)+sumJ (iOf fun i=>i6 ((stJ a f z).F (i+(stJ a f z).o))) (stJ a f z).n) (iOf (chainF [SV.int IntKind.i64 ((stJ a f z).ba+(f (↑z:Int).toNat).pf)])) (1:Nat)) (0:Int)))]))).f (i+((0:Nat)+(max (0:Int) ((↑(zp9_2.snd+(1:Nat)):Int) - a.ba)).toNat)))=inL ((↑(zp9_2.snd+(1:Nat)):Int) - max (0:Int) ((↑(zp9_2.snd+(1:Nat)):Int) - a.ba)).toNat (iOf fun i=>(rowsK (Try.prog.cellsOf (3:Nat)) (zp9_2.snd+(1:Nat)) (appF zp9_2.snd (fun i=>i6 (lJ (arF (stJ a f zp9_2.fst)) (pmA a (stJ a f zp9_2.fst) (f zp9_2.fst)) i)) (chainF [SV.int IntKind.i64 (duA a (f (↑z:Int).toNat) - min (duA a (f (↑z:Int).toNat)) (max (mnJ (duA a (f (↑z:Int).toNat)+sumJ (iOf fun i=>i6 ((stJ a f z).F (i+(stJ a f z).o))) (stJ a f z).n) (iOf (chainF [SV.int IntKind.i64 ((stJ a f z).ba+(f (↑z:Int).toNat).pf)])) (1:Nat)) (0:Int)))]))).f (i+((0:Nat)+(max (0:Int) ((↑(zp9_2.snd+(1:Nat)):Int) - a.ba)).toNat)))∧((↑(zp9_2.2+(1:Nat)):Int) - max (0:Int) ((↑(zp9_2.2+(1:Nat)):Int) - a.6)).toNat≤(10:Nat)∧nnL ((↑(zp9_2.snd+(1:Nat)):Int) - max (0:Int) ((↑(zp9_2.snd+(1:Nat)):Int) - a.ba)).toNat (iOf fun i=>(rowsK (Try.prog.cellsOf (3:Nat)) (zp9_2.snd+(1:Nat)) (appF zp9_2.snd (fun i=>i6 (lJ (arF (stJ a f zp9_2.fst)) (pmA a (stJ a f zp9_2.fst) (f zp9_2.fst)) i)) (chainF [SV.int IntKind.i64 (duA a (f (↑z:Int).toNat) - min (duA a (f (↑z:Int).toNat)) (max (mnJ (duA a (f (↑z:Int).toNat)+sumJ (iOf fun i=>i6 ((stJ a f z).F (i+(stJ a f z).o))) (stJ a f z).n) (iOf (chainF [SV.int IntKind.i64 ((stJ a f z).ba+(f (↑z:Int).toNat).pf)])) (1:Nat)) (0:Int)))]))).f (i+((0:Nat)+(max (0:Int) ((↑(zp9_2.snd+(1:Nat)):Int) - a.ba)).toNat)))∧(0:Nat)<(1:Nat)∧zp9_2.1<n∧(↑z:Int)=(↑zp9_2.1:Int)∧rtA a (f (↑z:Int).toNat).1=rtA a (f zp9_2.fst).1∧duA a (f (↑z:Int).toNat)=duA a (f zp9_2.fst)∧max (mnJ (duA a (f (↑z:Int).toNat)+sumJ (iOf fun i=>i6 ((stJ a f z).F (i+(stJ a f z).o))) (stJ a f z).3) (iOf (chainF [SV.int IntKind.i64 ((stJ a f z).ba+(f (↑z:Int).toNat).pf)])) (1:Nat)) (0:Int)=pdA a (stJ a f zp9_2.fst) (f zp9_2.fst)∧sumJ (iOf fun i=>(rowsK (Try.prog.cellsOf (3:Nat)) (zp9_2.snd+(1:Nat)) (appF zp9_2.snd (fun i=>i6 (lJ (arF (stJ a f zp9_2.fst)) (pmA a (stJ a f zp9_2.fst) (f zp9_2.fst)) i)) (chainF [SV.int IntKind.i64 (duA a (f (↑z:Int).toNat) - min (duA a (f (↑z:Int).toNat)) (max (mnJ (duA a (f (↑z:Int).toNat)+sumJ (iOf fun i=>i6 ((stJ a f z).F (i+(stJ a f z).o))) (stJ a f z).n) (iOf (chainF [SV.int IntKind.i64 ((stJ a f z).ba+(f (↑z:Int).toNat).pf)])) (1:Nat)) (0:Int)))]))).f (i+((0:Nat)+(max (0:Int) ((↑(zp9_2.snd+(1:Nat)):Int) - a.ba)).toNat))) ((↑(zp9_2.2+(1:Nat)):Int) - max (0:Int) ((↑(zp9_2.2+(1:Nat)):Int) - a.6)).toNat=arS a (stJ a f zp9_2.fst) (f zp9_2.fst)∧min ((stJ a f zp9_2.fst).1+(f zp9_2.fst).3 - max (mnJ (duA a (f (↑z:Int).toNat)+sumJ (iOf fun i=>i6 ((stJ a f z).F (i+(stJ a f z).o))) (stJ a f z).3) (iOf (chainF [SV.int IntKind.i64 ((stJ a f z).ba+(f (↑z:Int).toNat).pf)])) (1:Nat)) (0:Int)) a.5=nB a (stJ a f zp9_2.fst) (f zp9_2.fst)∧(stJ a f zp9_2.fst).1+(f zp9_2.fst).3 - max (mnJ (duA a (f (↑z:Int).toNat)+sumJ (iOf fun i=>i6 ((stJ a f z).F (i+(stJ a f z).o))) (stJ a f z).3) (iOf (chainF [SV.int IntKind.i64 ((stJ a f z).ba+(f (↑z:Int).toNat).pf)])) (1:Nat)) (0:Int) - min ((stJ a f zp9_2.fst).1+(f zp9_2.fst).3 - max (mnJ (duA a (f (↑z:Int).toNat)+sumJ (iOf fun i=>i6 ((stJ a f z).F (i+(stJ a f z).o))) (stJ a f z).3) (iOf (chainF [SV.int IntKind.i64 ((stJ a f z).ba+(f (↑z:Int).toNat).pf)])) (1:Nat)) (0:Int)) a.5=(stJ a f zp9_2.fst).1+(f zp9_2.fst).3 - pdA a (stJ a f zp9_2.fst) (f zp9_2.fst) - nB a (stJ a f zp9_2.fst) (f zp9_2.fst)∧(rI ((↑z:Int)+(1:Int))∧∃ (z_3:Nat),z_3≤n∧n - z_3<n - z∧zp9_2.fst.succ=z_3∧rE (SV.denL a.cells)∧(True∧True∧True∧True∧True∧True∧True)∧rE (SV.denL [yrL n f])∧((∀ (i:Nat),i<n→True∧True∧True∧True)∧True)∧rE (0:Nat)∧rE (0:Nat)∧n=n∧(∀ (i:Nat),i<n→rE ((f i).sv.den)∧True∧True∧True∧True)∧rE (↑n:Int)∧(↑z:Int)+(1:Int)=(↑z_3:Int)∧rE (Fn.func (52:FuncId))∧a.1=a.1∧a.2=a.2∧a.3=a.3∧a.4=a.4∧a.5=a.5∧a.6=a.6∧a.5=a.5∧a.6=a.6∧min ((stJ a f zp9_2.fst).1+(f zp9_2.fst).3 - max (mnJ (duA a (f (↑z:Int).toNat)+sumJ (iOf fun i=>i6 ((stJ a f z).F (i+(stJ a f z).o))) (stJ a f z).3) (iOf (chainF [SV.int IntKind.i64 ((stJ a f z).ba+(f (↑z:Int).toNat).pf)])) (1:Nat)) (0:Int)) a.5=(stJ a f z_3).1∧(0:Nat)+(max (0:Int) ((↑(zp9_2.2+(1:Nat)):Int) - a.6)).toNat=(stJ a f z_3).2∧((↑(zp9_2.2+(1:Nat)):Int) - max (0:Int) ((↑(zp9_2.2+(1:Nat)):Int) - a.6)).toNat=(stJ a f z_3).3∧(stJ a f z_3).2+(stJ a f z_3).3=zp9_2.2+(1:Nat)∧(∀ (i_4:Nat),i_4<(stJ a f z_3).2+(stJ a f z_3).3→rE (1:Nat)∧(if i_4<zp9_2.2 then lJ (arF (stJ a f zp9_2.fst)) (pmA a (stJ a f zp9_2.fst) (f zp9_2.fst)) i_4 else duA a (f (↑z:Int).toNat) - min (duA a (f (↑z:Int).toNat)) (max (mnJ (duA a (f (↑z:Int).toNat)+sumJ (iOf fun i=>i6 ((stJ a f z).F (i+(stJ a f z).o))) (stJ a f z).3) (iOf (chainF [SV.int IntKind.i64 ((stJ a f z).ba+(f (↑z:Int).toNat).pf)])) (1:Nat)) (0:Int)))=(stJ a f z_3).4 i_4∧True)∧True)∧True)
def itG1 (a:Ytfobgmecnlehaaa.Act) (n:Nat) (f:Nat→Yr) (y_1:Nat) (zp9_2:Nat × Nat):Prop:=((↑zp9_2.2:Int)<(↑(stJ a f zp9_2.fst).3:Int)→(0:Int)≤(↑zp9_2.2:Int)∧(↑zp9_2.2:Int)<(↑(stJ a f zp9_2.fst).3:Int)∧(stJ a f zp9_2.fst).2+(↑zp9_2.2:Int).toNat<(stJ a f zp9_2.fst).2+(stJ a f zp9_2.fst).3∧rI (mJ (arF (stJ a f zp9_2.fst)) (pmA a (stJ a f zp9_2.fst) (f zp9_2.fst)) zp9_2.2 - min ((stJ a f zp9_2.fst).4 ((stJ a f zp9_2.fst).o+(↑zp9_2.snd:Int).toNat)) (mJ (arF (stJ a f zp9_2.fst)) (pmA a (stJ a f zp9_2.fst) (f zp9_2.fst)) zp9_2.2))∧rI ((stJ a f zp9_2.fst).4 ((stJ a f zp9_2.fst).o+(↑zp9_2.snd:Int).toNat) - min ((stJ a f zp9_2.fst).4 ((stJ a f zp9_2.fst).o+(↑zp9_2.snd:Int).toNat)) (mJ (arF (stJ a f zp9_2.fst)) (pmA a (stJ a f zp9_2.fst) (f zp9_2.fst)) zp9_2.2))∧True∧(∀ (i:Nat),i<(1:Nat)→rE true)∧rE (0:Nat)∧rE zp9_2.2∧(∀ (i:Nat),rE true)∧(zp9_2.2+(1:Nat))*(8:Nat)≤(140737488355328:Nat)∧zp9_2.2+(1:Nat)≤(4611686018427387904:Nat)∧rI ((↑zp9_2.2:Int)+(1:Int))∧∃ (zp9_3:Nat × Nat),((zp9_3.1<n∧zp9_3.2≤(stJ a f zp9_3.fst).3)∧zp9_3.1=y_1)∧(stJ a f zp9_3.fst).3 - zp9_3.2<(stJ a f zp9_2.fst).3 - zp9_2.2∧zp9_2.1=zp9_3.1∧mJ (arF (stJ a f zp9_2.fst)) (pmA a (stJ a f zp9_2.fst) (f zp9_2.fst)) zp9_2.2 - min ((stJ a f zp9_2.fst).4 ((stJ a f zp9_2.fst).o+(↑zp9_2.snd:Int).toNat)) (mJ (arF (stJ a f zp9_2.fst)) (pmA a (stJ a f zp9_2.fst) (f zp9_2.fst)) zp9_2.2)=mJ (arF (stJ a f zp9_3.fst)) (pmA a (stJ a f zp9_3.fst) (f zp9_3.fst)) zp9_3.2∧rE (0:Nat)∧zp9_2.2+(1:Nat)=zp9_3.2∧(stJ a f zp9_2.fst).2=(stJ a f zp9_3.fst).2∧(stJ a f zp9_2.fst).3=(stJ a f zp9_3.fst).3∧(↑(stJ a f zp9_2.fst).3:Int)=(↑(stJ a f zp9_3.fst).3:Int)∧(↑zp9_2.2:Int)+(1:Int)=(↑zp9_3.2:Int)∧rE (Fn.func (52:FuncId))∧a.1=a.1∧a.2=a.2∧a.3=a.3∧a.4=a.4∧a.5=a.5∧a.6=a.6∧a.5=a.5∧a.6=a.6∧(stJ a f zp9_2.fst).1+(f zp9_2.fst).3=(stJ a f zp9_3.fst).1+(f zp9_3.fst).3∧(stJ a f zp9_2.fst).2=(stJ a f zp9_3.fst).2∧(stJ a f zp9_2.fst).3=(stJ a f zp9_3.fst).3∧(stJ a f zp9_3.fst).2+(stJ a f zp9_3.fst).3=(stJ a f zp9_2.fst).2+(stJ a f zp9_2.fst).3∧(∀ (i_4:Nat),i_4<(stJ a f zp9_3.fst).2+(stJ a f zp9_3.fst).3→rE (1:Nat)∧(stJ a f zp9_2.fst).4 i_4=(stJ a f zp9_3.fst).4 i_4∧True)∧(f zp9_2.fst).1=(f zp9_3.fst).1∧(f zp9_2.fst).2=(f zp9_3.fst).2∧(f zp9_2.fst).3=(f zp9_3.fst).3∧(f zp9_2.fst).1=(f zp9_3.fst).1∧(f zp9_2.fst).2=(f zp9_3.fst).2∧(f zp9_2.fst).3=(f zp9_3.fst).3∧rE (0:Int)∧rE (0:Int)∧rE (0:Int)∧rE (0:Int)∧rE (0:Int)∧rE (0:Int)∧zp9_3.2=zp9_2.2+(1:Nat)∧(∀ (i_4:Nat),i_4<zp9_3.2→rE (1:Nat)∧(if i_4<zp9_2.2 then lJ (arF (stJ a f zp9_2.fst)) (pmA a (stJ a f zp9_2.fst) (f zp9_2.fst)) i_4 else (stJ a f zp9_2.fst).4 ((stJ a f zp9_2.fst).o+(↑zp9_2.snd:Int).toNat) - min ((stJ a f zp9_2.fst).4 ((stJ a f zp9_2.fst).o+(↑zp9_2.snd:Int).toNat)) (mJ (arF (stJ a f zp9_2.fst)) (pmA a (stJ a f zp9_2.fst) (f zp9_2.fst)) zp9_2.2))=lJ (arF (stJ a f zp9_3.fst)) (pmA a (stJ a f zp9_3.fst) (f zp9_3.fst)) i_4∧True)∧True)
def itG2 (a:Ytfobgmecnlehaaa.Act) (n:Nat) (f:Nat→Yr) (z:Nat) (y_1:Nat):Prop:=(∃ (zp9_2:Nat × Nat),((zp9_2.1<n∧zp9_2.2≤(stJ a f zp9_2.fst).3)∧zp9_2.1=y_1)∧z=zp9_2.1∧max (mnJ (duA a (f (↑z:Int).toNat)+sumJ (iOf fun i=>i6 ((stJ a f z).F (i+(stJ a f z).o))) (stJ a f z).3) (iOf (chainF [SV.int IntKind.i64 ((stJ a f z).ba+(f (↑z:Int).toNat).pf)])) (1:Nat)) (0:Int) - min (duA a (f (↑z:Int).toNat)) (max (mnJ (duA a (f (↑z:Int).toNat)+sumJ (iOf fun i=>i6 ((stJ a f z).F (i+(stJ a f z).o))) (stJ a f z).3) (iOf (chainF [SV.int IntKind.i64 ((stJ a f z).ba+(f (↑z:Int).toNat).pf)])) (1:Nat)) (0:Int))=mJ (arF (stJ a f zp9_2.fst)) (pmA a (stJ a f zp9_2.fst) (f zp9_2.fst)) zp9_2.2∧rE (0:Nat)∧(0:Nat)=zp9_2.2∧(stJ a f z).2=(stJ a f zp9_2.fst).2∧(stJ a f z).3=(stJ a f zp9_2.fst).3∧(↑(stJ a f z).3:Int)=(↑(stJ a f zp9_2.fst).3:Int)∧(0:Int)=(↑zp9_2.2:Int)∧rE (Fn.func (52:FuncId))∧a.1=a.1∧a.2=a.2∧a.3=a.3∧a.4=a.4∧a.5=a.5∧a.6=a.6∧a.5=a.5∧a.6=a.6∧(stJ a f z).1+(f (↑z:Int).toNat).3=(stJ a f zp9_2.fst).1+(f zp9_2.fst).3∧(stJ a f z).2=(stJ a f zp9_2.fst).2∧(stJ a f z).3=(stJ a f zp9_2.fst).3∧(stJ a f zp9_2.fst).2+(stJ a f zp9_2.fst).3=(stJ a f z).2+(stJ a f z).3∧(∀ (i_3:Nat),i_3<(stJ a f zp9_2.fst).2+(stJ a f zp9_2.fst).3→rE (1:Nat)∧(stJ a f z).4 i_3=(stJ a f zp9_2.fst).4 i_3∧True)∧(f (↑z:Int).toNat).1=(f zp9_2.fst).1∧(f (↑z:Int).toNat).2=(f zp9_2.fst).2∧(f (↑z:Int).toNat).3=(f zp9_2.fst).3∧(f (↑z:Int).toNat).1=(f zp9_2.fst).1∧(f (↑z:Int).toNat).2=(f zp9_2.fst).2∧(f (↑z:Int).toNat).3=(f zp9_2.fst).3∧rE (0:Int)∧rE (0:Int)∧rE (0:Int)∧rE (0:Int)∧rE (0:Int)∧rE (0:Int)∧zp9_2.2=(0:Nat)∧True)
theorem itG_vc (a:Ytfobgmecnlehaaa.Act) (n:Nat) (f:Nat→Yr):itG a n f =
((∃ (z:Nat),z≤n∧(0:Nat)=z∧rE (SV.denL a.cells)∧(True∧True∧True∧True∧True∧True∧True)∧rE (SV.denL [yrL n f])∧((∀ (i:Nat),i<n→True∧True∧True∧True)∧True)∧rE (0:Nat)∧rE (0:Nat)∧n=n∧(∀ (i:Nat),i<n→rE ((f i).sv.den)∧True∧True∧True∧True)∧rE (↑n:Int)∧(0:Int)=(↑z:Int)∧Fn.func (52:Nat)=Fn.func (52:FuncId)∧a.1=a.1∧a.2=a.2∧a.3=a.3∧a.4=a.4∧a.5=a.5∧a.6=a.6∧a.5=a.5∧a.6=a.6∧(0:Int)=(stJ a f z).1∧(0:Nat)=(stJ a f z).2∧(0:Nat)=(stJ a f z).3∧(stJ a f z).2+(stJ a f z).3=(0:Nat)∧True)∧∀ (z:Nat),z≤n→((↑z:Int)<(↑n:Int)→(0:Int)≤(↑z:Int)∧(↑z:Int)<(↑n:Int)∧(0:Nat)<(1:Nat)∧(0:Nat)<(1:Nat)∧(0:Nat)<(1:Nat)∧okA a∧okY (f (↑z:Int).toNat)∧(0:Nat)<(1:Nat)∧(0:Nat)<(1:Nat)∧rI ((stJ a f z).1 +
(f (↑z:Int).toNat).3)∧(0:Nat)<(1:Nat)∧(stJ a f z).2+(stJ a f z).3≤(stJ a f z).2+(stJ a f z).3∧(∀ (i_1:Nat),i_1<(stJ a f z).3→rE (1:Nat)∧True)∧(SV.lst (1:Nat) (stJ a f z).n fun i=>i6 ((stJ a f z).F (i+(stJ a f z).o)))=inL (stJ a f z).n (iOf fun i=>i6 ((stJ a f z).F (i+(stJ a f z).o)))∧(stJ a f z).3≤(10:Nat)∧nnL (stJ a f z).n (iOf fun i=>i6 ((stJ a f z).F (i+(stJ a f z).o)))∧rI (duA a (f (↑z:Int).toNat)+sumJ (iOf fun i=>i6 ((stJ a f z).F (i+(stJ a f z).o))) (stJ a f z).3)∧(0:Nat)<(1:Nat)∧True∧(∀ (i:Nat),i<(1:Nat)→True)∧SV.lst (1:Nat) (1:Nat) (chainF [SV.int IntKind.i64 ((stJ a f z).ba+(f (↑z:Int).toNat).pf)])=inL (1:Nat) (iOf (chainF [SV.int IntKind.i64 ((stJ a f z).ba+(f (↑z:Int).toNat).pf)]))∧(1:Nat)<(1000:Nat)∧(0:Nat)<(1:Nat)∧rI (max (mnJ (duA a (f (↑z :
Int).toNat)+sumJ (iOf fun i=>i6 ((stJ a f z).F (i+(stJ a f z).o))) (stJ a f z).3) (iOf (chainF [SV.int IntKind.i64 ((stJ a f z).ba+(f (↑z:Int).toNat).pf)])) (1:Nat)) (0:Int) - min (duA a (f (↑z:Int).toNat)) (max (mnJ (duA a (f (↑z:Int).toNat)+sumJ (iOf fun i=>i6 ((stJ a f z).F (i+(stJ a f z).o))) (stJ a f z).3) (iOf (chainF [SV.int IntKind.i64 ((stJ a f z).ba+(f (↑z:Int).toNat).pf)])) (1:Nat)) (0:Int)))∧rI (duA a (f (↑z:Int).toNat) - min (duA a (f (↑z:Int).toNat)) (max (mnJ (duA a (f (↑z:Int).toNat)+sumJ (iOf fun i=>i6 ((stJ a f z).F (i+(stJ a f z).o))) (stJ a f z).3) (iOf (chainF [SV.int IntKind.i64 ((stJ a f z).ba+(f (↑z:Int).toNat).pf)])) (1:Nat)) (0:Int)))∧(∃ (y_1:Nat),(itG2 a n f z y_1)∧∀ (zp9_2:Nat × Nat),(zp9_2.1<n∧zp9_2.2≤(stJ a f zp9_2.fst).3)∧zp9_2.1=y_1→(itG1 a n f y_1 zp9_2)∧(¬(↑zp9_2.2:Int) <
(↑(stJ a f zp9_2.fst).3:Int)→(0:Nat)<(1:Nat)∧(itG0 a n f z zp9_2)∧True))∧((0:Nat)<(1:Nat)∧(∃ (y_1:Nat),(itG2 a n f z y_1)∧∀ (zp9_2:Nat × Nat),(zp9_2.1<n∧zp9_2.2≤(stJ a f zp9_2.fst).3)∧zp9_2.1=y_1→(itG1 a n f y_1 zp9_2)∧(¬(↑zp9_2.2:Int)<(↑(stJ a f zp9_2.fst).3:Int)→(itG0 a n f z zp9_2)∧True))∧True)∧True)∧(¬(↑z:Int)<(↑n:Int)→z=n)):=by kernel_rfl
end Go.Proofs.Ytfobgmecnlehaaa

set_option maxRecDepth 100000
namespace Go.Proofs.Ytfobgmecnlehaaa
open Go Go.Lg
attribute [local irreducible] funS bodyH
theorem ar_fold (s:Lg):(iOf fun i=>i6 (s.F (i+s.o)))=arF s:=by
 funext i
 show s.F (i+s.o)=s.F (s.o+i)
 rw [Nat.add_comm]
theorem pd_fold (a:Act) (s:Lg) (y:Yr):max (mnJ (duA a y+sumJ (arF s) s.n) (iOf (chainF [SV.int IntKind.i64 (s.ba+y.pf)])) 1) 0=pdA a s y:=rfl
theorem od_fold (a:Act) (s:Lg) (y:Yr):min (duA a y) (pdA a s y)=odA a s y:=rfl
theorem nB_fold (a:Act) (s:Lg) (y:Yr):min (s.ba+y.pf - pdA a s y) a.mo=nB a s y:=rfl
theorem it2_true {a:Act} {n:Nat} {f:Nat→Yr} {z:Nat} (hz:z<n):itG2 a n f z z:=by
 unfold itG2
 simp only [rI,rE,and_true,true_and,Int.toNat_natCast,ar_fold,pd_fold,od_fold,implies_true]
 refine ⟨(z,0),⟨⟨hz,by simp⟩,rfl⟩,?_⟩
 simp [mJ,pmA]
structure bdS (a:Act) (s:Lg) (y:Yr):Prop where
 n:s.n≤5
 d:nnB (duA a y)
 p0:0≤pdA a s y
 o0:0≤odA a s y
 op:odA a s y≤pdA a s y
 od:odA a s y≤duA a y
 p1:pdA a s y≤7000000000000
 s0:0≤sumJ (arF s) s.n
 s1:sumJ (arF s) s.n≤5497558138880
 b0:-20000000000000≤s.ba
 b1:s.ba≤1099511627776
 y0:-1099511627776≤y.pf
 y1:y.pf≤1099511627776
 m0:0≤a.mo
 m1:a.mo≤1099511627776
 nb:-20000000000000≤nB a s y
 nc:nB a s y≤1099511627776
theorem bd_all {a:Act} {j:Nat} {s:Lg} {y:Yr} (ha:okA a) (hs:okL a j s) (hy:okY y) (hj:j≤16):bdS a s y:=by
 obtain ⟨b1,b2,b3,b4⟩:=pd_bd hs hy
 have h3:=sum_bd hs.q
 have h4:=hs.n
 have h5:=ha.ba
 have h6:=du_bd a hy
 have h7:=hs.lo
 have h8:=hs.hi
 have h9:=hy.pf
 have h10:=ha.mo
 unfold nnB bt at h6
 unfold bt at h5 h9 h10
 have hp:pdA a s y≤7000000000000∧-20000000000000≤s.ba+y.pf - pdA a s y:=by unfold pdA at *; omega
 refine ⟨by omega,by unfold nnB bt; omega,b1,b2,b3,b4,hp.1,by omega,by omega,by omega,by omega,by omega,by omega,by omega,by omega,?_,?_⟩
 ·unfold nB; omega
 ·unfold nB; omega
theorem it1_true {a:Act} {n:Nat} {f:Nat→Yr} {z:Nat} (ha:okA a) (hf:okYs n f) (hz:z<n) (hn:n≤16) {p:Nat × Nat} (h1:p.2≤(stJ a f p.1).n) (h2:p.1=z):itG1 a n f z p:=by
 obtain ⟨j,k⟩:=p
 simp only at h1 h2
 subst h2
 unfold itG1
 simp only [rI,rE,and_true,true_and,Int.toNat_natCast,ar_fold,pd_fold,od_fold,implies_true]
 intro hl
 have hs:=st_ok ha hf (j:=j) (by omega)
 have hb:=bd_all ha hs (hf j hz) (by omega)
 have hm0:0≤pmA a (stJ a f j) (f j)∧pmA a (stJ a f j) (f j)≤7000000000000:=by
  have:=hb.o0; have:=hb.op; have:=hb.p1
  unfold pmA; omega
 have hm:=mJ_bd (f:=arF (stJ a f j)) (m:=pmA a (stJ a f j) (f j)) hm0.1 (k:=k) fun i hi=>hs.q i (by omega)
 have hq:=hs.q k (by omega)
 have h5:=hb.n
 have e:(stJ a f j).F ((stJ a f j).o+k)=arF (stJ a f j) k:=rfl
 rw [e]
 unfold nnB bt at hq
 refine ⟨by omega,hl,by omega,by omega,by omega,by omega,by omega,by omega,(j,k+1),⟨⟨hz,by simp; omega⟩,rfl⟩,by simp; omega,rfl,rfl,rfl,rfl,rfl,rfl,by simp,?_⟩
 simp
 intro i hi hk
 have:i=k:=by omega
 subst this; rfl
theorem row_fold (a:Act) (s:Lg) (y:Yr):(iOf fun i=>appF s.n (fun i=>i6 (lJ (arF s) (pmA a s y) i)) (chainF [SV.int IntKind.i64 (duA a y - odA a s y)]) (i+(s.n+1 - nN a s)))=arF (nx a s y):=by
 funext i
 rw [arF_nx,Nat.add_comm (s.n+1 - nN a s) i]
 rfl
theorem it0_true {a:Act} {n:Nat} {f:Nat→Yr} {z:Nat} (ha:okA a) (hf:okYs n f) (hz:z<n) (hn:n≤16):itG0 a n f z (z,(stJ a f z).n):=by
 unfold itG0
 have hs:=st_ok ha hf (j:=z) (by omega)
 have hb:=bd_all ha hs (hf z hz) (by omega)
 have hx:=ok_nx ha hs (hf z hz)
 have hba:=ha.ba
 unfold bt at hba
 have e1:max (0:Int) ((((stJ a f z).n+1:Nat):Int) - a.ba)=(((stJ a f z).n+1 - nN a (stJ a f z):Nat):Int):=by unfold nN; omega
 have e2:((((stJ a f z).n+1:Nat):Int) - (((stJ a f z).n+1 - nN a (stJ a f z):Nat):Int)).toNat=nN a (stJ a f z):=by unfold nN; omega
 have hnN:nN a (stJ a f z)≤(stJ a f z).n+1:=by unfold nN; omega
 simp only [rowsK,rI,rE,and_true,true_and,Int.toNat_natCast,ar_fold,pd_fold,od_fold,nB_fold,implies_true,e1,e2,Nat.zero_lt_one,Nat.zero_add]
 rw [row_fold]
 have h5:=hb.n
 have g1:=hb.b0
 have g2:=hb.b1
 have g3:=hb.y0
 have g4:=hb.y1
 have g5:=hb.p0
 have g6:=hb.p1
 have g7:=hb.nb
 have g8:=hb.nc
 refine ⟨by omega,by omega,by omega,by omega,by omega,by omega,by omega,by omega,by omega,by rw [← row_fold]; rfl,by omega,hx.q,hz,rfl,by omega,z+1,by omega,by omega,rfl,by omega,rfl,rfl,rfl,?_,fun i hi=>rfl⟩
 show (stJ a f z).n+1 - nN a (stJ a f z)+nN a (stJ a f z)=_
 omega
theorem it_true {a:Act} {n:Nat} {f:Nat→Yr} (ha:okA a) (hf:okYs n f) (hn:n≤16):itG a n f:=by
 rw [itG_vc]
 simp only [rI,rE,and_true,true_and,Int.toNat_natCast,ar_fold,pd_fold,od_fold,nB_fold,implies_true,Nat.zero_lt_one]
 refine ⟨⟨0,by omega,rfl,rfl,rfl,rfl,rfl,rfl⟩,fun z hz=>⟨fun hl=>?_,fun hl=>by omega⟩⟩
 have hz':z<n:=by omega
 have hs:=st_ok ha hf (j:=z) (by omega)
 have hb:=bd_all ha hs (hf z hz') (by omega)
 have h5:=hb.n
 have g0:=hb.d
 have g1:=hb.b0
 have g2:=hb.b1
 have g3:=hb.y0
 have g4:=hb.y1
 have g5:=hb.p0
 have g6:=hb.p1
 have g7:=hb.s0
 have g8:=hb.s1
 have g9:=hb.o0
 have g10:=hb.op
 have g11:=hb.od
 unfold nnB bt at g0
 have ex:∀ p:Nat × Nat,(p.1<n∧p.2≤(stJ a f p.1).n)∧p.1=z→¬ (p.2:Int)<((stJ a f p.1).n:Int)→itG0 a n f z p:=by
  rintro ⟨j,k⟩ ⟨⟨p1,p2⟩,p3⟩ p4
  simp only at p1 p2 p3 p4
  subst p3
  have:k=(stJ a f j).n:=by omega
  subst this
  exact it0_true ha hf hz' hn
 have lp:∀ p:Nat × Nat,(p.1<n∧p.2≤(stJ a f p.1).n)∧p.1=z→itG1 a n f z p:=fun p hp=>it1_true ha hf hz' hn hp.1.2 hp.2
 refine ⟨by omega,hl,ha,hf z hz',by omega,by omega,by rw [← ar_fold]; rfl,by omega,hs.q,by omega,rfl,by omega,by omega,by omega,?_,?_⟩
 ·exact ⟨z,it2_true hz',fun p hp=>⟨lp p hp,fun h=>ex p hp h⟩⟩
 ·exact ⟨z,it2_true hz',fun p hp=>⟨lp p hp,fun h=>ex p hp h⟩⟩
end Go.Proofs.Ytfobgmecnlehaaa
