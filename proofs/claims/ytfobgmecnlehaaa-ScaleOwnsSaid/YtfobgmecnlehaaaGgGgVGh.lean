import Derived.Test.YtfobgmecnlehaaaEkEkVElEmEnEnVEp
set_option linter.unusedVariables false
set_option linter.unusedSimpArgs false
namespace Go.Proofs.Ytfobgmecnlehaaa
open Go Go.Lg
attribute [local irreducible] bodyH funS
def yrR (n:Nat) (f:Nat→Yr):Option SRow:=rw' 3 n fun i=>(f i).sv
def pyR (n:Nat) (p:Nat→Pay):Option SRow:=rw' 6 n fun i=>(p i).sv
def ngP (p:Nat→Pay) (j q:Nat):Pay:=⟨(p q).rt,(p q).du,if q<j then -1 else (p q).pd,(p q).ar,(p q).rs,(p q).rb⟩
noncomputable def csO:CSpec:=ctrsF [pmC] (ctrs [erC 36,ckC 18,neC 20,paC,awC])
noncomputable def owA (a:Act) (n:Nat) (f:Nat→Yr) (m:Nat) (p:Nat→Pay):ISpec:={ σ:=Nat,inv:=fun j z=>z=j,nr:=7,ms:=fun _ X=>msV 6 X,t:=mkF 26 [(7,.ptr 6 0 0)],X:=fun j=>mkX [vr 6 a.sv,none,yrR n f,none,pyR m p,vr 6 a.sv,vr 1 (.sl 7 0 j),pyR j (pyJ a f)],rd:=fun _ _ k=>∃ z,k z,rdOK:=fun _ _ _ h=>h }
noncomputable def owB (a:Act) (n:Nat) (f:Nat→Yr) (m:Nat) (p:Nat→Pay) (N:Nat):ISpec:={ σ:=Nat,inv:=fun j z=>z=j,nr:=9,ms:=fun _ X=>msV 8 X,t:=mkF 26 [(7,.ptr 8 0 0)],X:=fun j=>mkX [vr 6 a.sv,pyR 0 p,yrR n f,pyR 0 p,pyR m p,pyR N (pyJ a f),pyR N (ngP (pyJ a f) N),vr 6 a.sv,vr 1 (.sl 9 0 j),pyR j (pyJ a f)],rd:=fun _ _ k=>∃ z,k z,rdOK:=fun _ _ _ h=>h }
noncomputable def owI (a:Act) (n:Nat) (f:Nat→Yr) (m:Nat) (p:Nat→Pay) (N:Nat):ISpecR:={ τ:=Nat,rdt:=fun _ X k=>k X.n,rdtOK:=fun _ _ _ h=>⟨_,h⟩,s:=fun y=>match Nat.beq y 7 with
 | true=>owA a n f m p
 | false=>owB a n f m p N }
noncomputable def cxO (a:Act) (n:Nat) (f:Nat→Yr) (m:Nat) (p:Nat→Pay) (N:Nat):CX:=inl Try.prog csO none (ictrs [itC]) 16 noL (oneL 0 (owI a n f m p N)) noX
noncomputable def msO (l:List Nat):FS→XS→Ms:=fun t _=>none :: slV (sget 94 t 7) :: none :: slV (sget 94 t 8) :: l.map fun i=>slV (sget 94 t i)
noncomputable def owF (n:Nat) (f:Nat→Yr) (m:Nat) (p:Nat→Pay) (N:Nat) (e:Int) (l:List (Nat × SV)):FS:=mkF 94 ([(1,yrL n f),(2,pyL m p),(3,.ptr 0 0 0),(7,.sl 2 0 n),(8,.sl 4 0 m),(10,i6 e),(11,.sl 5 0 N)] ++ l)
noncomputable def ow0 (a:Act) (n:Nat) (f:Nat→Yr) (m:Nat) (p:Nat→Pay) (N:Nat) (e:Int):HSpec :=
 { toLSpec:={ σ:=Nat,inv:=fun j=>j≤N,μ:=fun j=>N - j,nr:=1,ms:=msO [11,9],t:=fun j=>owF n f m p N e [(9,.sl 6 0 N),(41,i6 N),(42,i6 j)],X:=fun j=>mkX [vr 6 a.sv,pyR 0 p,yrR n f,pyR 0 p,pyR m p,pyR N (pyJ a f),pyR N (ngP (pyJ a f) j)],rd:=fun _ _ k=>∃ z,k z,rdOK:=fun _ _ _ h=>h } }
noncomputable def ow2 (a:Act) (n:Nat) (f:Nat→Yr) (m:Nat) (p:Nat→Pay) (N:Nat) (e:Int):HSpec :=
 { toLSpec:={ σ:=Nat,inv:=fun j=>j≤n,μ:=fun j=>n - j,nr:=1,ms:=msO [11,13],t:=fun j=>owF n f m p N e [(13,.sl 6 0 N),(14,i6 e),(64,i6 n),(65,i6 j)],X:=fun _=>mkX [vr 6 a.sv,pyR 0 p,yrR n f,pyR 0 p,pyR m p,pyR N (pyJ a f),pyR N (pyJ a f)],rd:=fun _ _ k=>∃ z,k z,rdOK:=fun _ _ _ h=>h } }
noncomputable def l9G (a:Act) (n:Nat) (f:Nat→Yr) (m:Nat) (p:Nat→Pay) (N:Nat) (e:Int):Prop:=funH Try.prog csO (cxO a n f m p N) (ictrs [])
 (twoL 0 (ow0 a n f m p N e) <| oneL 2 (ow2 a n f m p N e)) noL
 9 [a.sv,yrL n f,pyL m p] (.bool true)
end Go.Proofs.Ytfobgmecnlehaaa

set_option maxRecDepth 100000
namespace Go.Proofs.Ytfobgmecnlehaaa
open Go Go.Lg
def l9G1 (a:Ytfobgmecnlehaaa.Act) (f:Nat→Yr) (N:Nat):Prop:=(∀ (i:Nat),i<N→rE (6:Nat)∧rE (rtA a (f i).1)∧rE (duA a (f i))∧rE (pdA a (stJ a f i) (f i))∧rE (arS a (stJ a f i) (f i))∧rE (nB a (stJ a f i) (f i))∧rE ((stJ a f i).1+(f i).3 - pdA a (stJ a f i) (f i) - nB a (stJ a f i) (f i))∧True)
def l9G6 (m:Nat) (p:Nat→Pay):Prop:=(∀ (i:Nat),i<m→rE (6:Nat)∧rE ((p i).1)∧rE ((p i).2)∧rE ((p i).3)∧rE ((p i).4)∧rE ((p i).5)∧rE ((p i).6)∧True)
def l9G7 (n:Nat) (f:Nat→Yr):Prop:=(∀ (i:Nat),i<n→rE (3:Nat)∧rE ((f i).1)∧rE ((f i).2)∧rE ((f i).3)∧True)
def l9G9 (m:Nat) (p:Nat→Pay):Prop:=(∀ (i:Nat),i<m→rE ((p i).sv.den)∧True∧True∧True∧True∧True∧True∧True)
def l9G11 (n:Nat) (f:Nat→Yr):Prop:=(∀ (i:Nat),i<n→rE ((f i).sv.den)∧True∧True∧True∧True)
def l9G3 (a:Ytfobgmecnlehaaa.Act) (n:Nat) (f:Nat→Yr) (m:Nat) (p:Nat→Pay) (N:Nat) (e:Int) (z:Nat):Prop:=((↑z:Int)<(↑n:Int)→(0:Int)≤(↑z:Int)∧(↑z:Int)<(↑n:Int)∧(0:Nat)+(↑z:Int).toNat<n∧(0:Int)≤(↑z:Int)∧(↑z:Int)<(↑n:Int)∧(¬((f ((0:Nat)+(↑z:Int).toNat)).1=(f (↑z:Int).toNat).1∧(f ((0:Nat)+(↑z:Int).toNat)).2=(f (↑z:Int).toNat).2∧(f ((0:Nat)+(↑z:Int).toNat)).3=(f (↑z:Int).toNat).3∧True)→false=true∧True)∧(¬¬((f ((0:Nat)+(↑z:Int).toNat)).1=(f (↑z:Int).toNat).1∧(f ((0:Nat)+(↑z:Int).toNat)).2=(f (↑z:Int).toNat).2∧(f ((0:Nat)+(↑z:Int).toNat)).3=(f (↑z:Int).toNat).3∧True)→rI ((↑z:Int)+(1:Int))∧∃ (z_1:Nat),z_1≤n∧n - z_1<n - z∧n=n∧(l9G11 n f)∧m=m∧(l9G9 m p)∧rE (0:Nat)∧rE (0:Nat)∧rE (0:Nat)∧n=n∧rE (0:Nat)∧m=m∧e=e∧rE (0:Nat)∧N=N∧rE (0:Nat)∧N=N∧e=e∧rE (↑n:Int)∧(↑z:Int)+(1:Int)=(↑z_1:Int)∧a.1=a.1∧a.2=a.2∧a.3=a.3∧a.4=a.4∧a.5=a.5∧a.6=a.6∧rE (0:Nat)∧n=n∧(l9G7 n f)∧rE (0:Nat)∧m=m∧(l9G6 m p)∧N=N∧(l9G1 a f N)∧N=N∧(l9G1 a f N)∧True))
def l9G4 (a:Ytfobgmecnlehaaa.Act) (n:Nat) (f:Nat→Yr) (m:Nat) (p:Nat→Pay) (N:Nat) (e:Int) (z:Nat):Prop:=(¬(↑z:Int)<(↑n:Int)→(0:Nat)+m≤m∧(∀ (i:Nat),i<m→rE (6:Nat)∧True∧True∧True∧True∧True∧True∧True)∧(∀ (i:Nat),i<m→True∧True∧True∧True∧True∧True∧True)∧(SV.lst (6:Nat) m fun i=>(p (i+(0:Nat))).sv)=pyL m (pyF fun i=>(p (i+(0:Nat))).sv)∧(SV.lst (6:Nat) m fun i=>(p i).sv)=pyL m (pyF fun i=>(p i).sv)∧m<(1000:Nat)∧m<(1000:Nat)∧(m=m∧eqP m (pyF fun i=>(p (i+(0:Nat))).sv) (pyF fun i=>(p i).sv)→(0:Nat)+N≤N∧(∀ (i:Nat),i<N→rE (6:Nat)∧True∧True∧True∧True∧True∧True∧True)∧(0:Nat)+N≤N∧(∀ (i:Nat),i<N→rE (6:Nat)∧True∧True∧True∧True∧True∧True∧True)∧(SV.lst (6:Nat) N fun i=>(pyJ a f (i+(0:Nat))).sv)=pyL N (pyF fun i=>(pyJ a f (i+(0:Nat))).sv)∧(SV.lst (6:Nat) N fun i=>(pyJ a f (i+(0:Nat))).sv)=pyL N (pyF fun i=>(pyJ a f (i+(0:Nat))).sv)∧N<(1000:Nat)∧N<(1000:Nat)∧(N=N∧eqP N (pyF fun i=>(pyJ a f (i+(0:Nat))).sv) (pyF fun i=>(pyJ a f (i+(0:Nat))).sv)→(e=e→rE true∧True)∧(¬e=e→false=true∧True))∧(¬(N=N∧eqP N (pyF fun i=>(pyJ a f (i+(0:Nat))).sv) (pyF fun i=>(pyJ a f (i+(0:Nat))).sv))→false=true∧True))∧(¬(m=m∧eqP m (pyF fun i=>(p (i+(0:Nat))).sv) (pyF fun i=>(p i).sv))→false=true∧True))
def l9G5 (a:Ytfobgmecnlehaaa.Act) (f:Nat→Yr) (z_1:Nat) (j:Nat) (z_2:Nat):Prop:=(∀ (i_3:Nat),i_3<z_2→rE (6:Nat)∧(if i_3<z_1 then rtA a (f i_3).1 else rtA a (f j).1)=rtA a (f i_3).1∧(if i_3<z_1 then duA a (f i_3) else duA a (yrF (fun i=>(yrF (fun i=>(f i).sv) i).sv) j))=duA a (f i_3)∧(if i_3<z_1 then pdA a (stJ a f i_3) (f i_3) else pdA a (stJ a (yrF fun i=>(yrF (fun i=>(f i).sv) i).sv) j) (yrF (fun i=>(yrF (fun i=>(f i).sv) i).sv) j))=pdA a (stJ a f i_3) (f i_3)∧(if i_3<z_1 then arS a (stJ a f i_3) (f i_3) else arS a (stJ a (yrF fun i=>(yrF (fun i=>(f i).sv) i).sv) j) (yrF (fun i=>(yrF (fun i=>(f i).sv) i).sv) j))=arS a (stJ a f i_3) (f i_3)∧(if i_3<z_1 then nB a (stJ a f i_3) (f i_3) else nB a (stJ a (yrF fun i=>(yrF (fun i=>(f i).sv) i).sv) j) (yrF (fun i=>(yrF (fun i=>(f i).sv) i).sv) j))=nB a (stJ a f i_3) (f i_3)∧(if i_3<z_1 then (stJ a f i_3).1+(f i_3).3 - pdA a (stJ a f i_3) (f i_3) - nB a (stJ a f i_3) (f i_3) else (stJ a (yrF fun i=>(yrF (fun i=>(f i).sv) i).sv) j).1+(f j).3 - pdA a (stJ a (yrF fun i=>(yrF (fun i=>(f i).sv) i).sv) j) (yrF (fun i=>(yrF (fun i=>(f i).sv) i).sv) j) - nB a (stJ a (yrF fun i=>(yrF (fun i=>(f i).sv) i).sv) j) (yrF (fun i=>(yrF (fun i=>(f i).sv) i).sv) j))=(stJ a f i_3).1+(f i_3).3 - pdA a (stJ a f i_3) (f i_3) - nB a (stJ a f i_3) (f i_3)∧True)
def l9G10 (p:Nat→Pay):Prop:=(∀ (i:Nat),i<(0:Nat)→rE (6:Nat)∧rE ((p i).1)∧rE ((p i).2)∧rE ((p i).3)∧rE ((p i).4)∧rE ((p i).5)∧rE ((p i).6)∧True)
def l9G0 (a:Ytfobgmecnlehaaa.Act) (n:Nat) (f:Nat→Yr) (m:Nat) (p:Nat→Pay) (N:Nat) (e:Int) (z:Nat):Prop:=(¬(↑z:Int)<(↑N:Int)→(0:Nat)<(1:Nat)∧(∀ (i:Nat),i<n→True∧True∧True∧True)∧(∀ (i:Nat),i<m→True∧True∧True∧True∧True∧True∧True)∧(SV.lst (3:Nat) n fun i=>(f i).sv)=yrL n f∧(SV.lst (6:Nat) m fun i=>(p i).sv)=pyL m (pyF fun i=>(p i).sv)∧n<(1000:Nat)∧m<(1000:Nat)∧(0:Nat)<(1:Nat)∧(∀ (i:Nat),i<n→True∧True∧True∧True)∧(SV.lst (3:Nat) n fun i=>(f i).sv)=yrL n f∧n<(1000:Nat)∧(0:Nat)<(1:Nat)∧(0:Nat)<(1:Nat)∧(∀ (i:Nat),i<n→True∧True∧True∧True)∧(SV.lst (3:Nat) n fun i=>(f i).sv)=yrL n f∧n<(1000:Nat)∧(¬erA a n f=(0:Int)→(∃ (z:Nat),z≤n∧n=n∧(l9G11 n f)∧m=m∧(l9G9 m p)∧rE (0:Nat)∧rE (0:Nat)∧rE (0:Nat)∧n=n∧rE (0:Nat)∧m=m∧e=e∧rE (0:Nat)∧N=N∧rE (0:Nat)∧(0:Nat)=N∧erA a n f=e∧rE (↑n:Int)∧(0:Int)=(↑z:Int)∧a.1=a.1∧a.2=a.2∧a.3=a.3∧a.4=a.4∧a.5=a.5∧a.6=a.6∧rE (0:Nat)∧n=n∧(l9G7 n f)∧rE (0:Nat)∧m=m∧(l9G6 m p)∧N=N∧(l9G1 a f N)∧N=(0:Nat)∧True)∧∀ (z:Nat),z≤n→(l9G3 a n f m p N e z)∧(l9G4 a n f m p N e z))∧(¬¬erA a n f=(0:Int)→(0:Nat)<(1:Nat)∧(∀ (i:Nat),i<n→True∧True∧True∧True)∧(SV.lst (3:Nat) n fun i=>(f i).sv)=yrL n f∧(∀ (i:Nat),i<n→True∧True∧True∧True)∧(SV.lst (3:Nat) n fun i=>(yrF (fun i=>(f i).sv) i).sv)=yrL n (yrF fun i=>(yrF (fun i=>(f i).sv) i).sv)∧okA a∧okYs n (yrF fun i=>(yrF (fun i=>(f i).sv) i).sv)∧n≤(16:Nat)∧((True∧True∧True∧True∧True∧True∧True)∧((∀ (i:Nat),i<n→True∧True∧True∧True)∧True)∧∃ (z_1:Nat),z_1=(0:Nat)∧rE (0:Nat)∧rE (0:Nat)∧rE (Fn.func (51:FuncId))∧SV.denL a.cells=SV.denL [SV.int IntKind.i64 a.pr,SV.int IntKind.i64 a.dv,SV.int IntKind.i64 a.st,SV.int IntKind.i64 a.gn,SV.int IntKind.i64 a.mo,SV.int IntKind.i64 a.ba]∧(True∧True∧True∧True∧True∧True∧True)∧SV.denL [yrL n f]=SV.denL [SV.lst (3:Nat) n fun i=>(yrF (fun i=>(f i).sv) i).sv]∧((∀ (i:Nat),i<n→True∧True∧True∧True)∧True)∧a.1=a.1∧a.2=a.2∧a.3=a.3∧a.4=a.4∧a.5=a.5∧a.6=a.6∧rE (0:Nat)∧(l9G10 p)∧n=n∧(l9G7 n f)∧rE (0:Nat)∧(l9G10 p)∧m=m∧(l9G6 m p)∧N=N∧(l9G1 a f N)∧N=N∧(∀ (i_2:Nat),i_2<N→rE (6:Nat)∧rE (rtA a (f i_2).1)∧rE (duA a (f i_2))∧((if i_2<z then (-1:Int) else pdA a (stJ a f i_2) (f i_2))=if i_2<N then (-1:Int) else pdA a (stJ a f i_2) (f i_2))∧rE (arS a (stJ a f i_2) (f i_2))∧rE (nB a (stJ a f i_2) (f i_2))∧rE ((stJ a f i_2).1+(f i_2).3 - pdA a (stJ a f i_2) (f i_2) - nB a (stJ a f i_2) (f i_2))∧True)∧a.1=a.1∧a.2=a.2∧a.3=a.3∧a.4=a.4∧a.5=a.5∧a.6=a.6∧rE (0:Nat)∧(0:Nat)=z_1∧z_1=(0:Nat)∧True)∧(∀ (j:Nat),j<n→∀ (z_1:Nat),z_1=j→(0:Nat)<(1:Nat)∧(0:Nat)<(1:Nat)∧True∧(∀ (i:Nat),i<(1:Nat)→rE true)∧rE (0:Nat)∧z_1=z_1∧(∀ (i:Nat),rE true)∧(z_1+(1:Nat))*(48:Nat)≤(140737488355328:Nat)∧z_1+(1:Nat)≤(4611686018427387904:Nat)∧∃ (z_2:Nat),z_2=j.succ∧a.1=a.1∧a.2=a.2∧a.3=a.3∧a.4=a.4∧a.5=a.5∧a.6=a.6∧rE (0:Nat)∧(l9G10 p)∧n=n∧(l9G7 n f)∧rE (0:Nat)∧(l9G10 p)∧m=m∧(l9G6 m p)∧N=N∧(l9G1 a f N)∧N=N∧(∀ (i:Nat),i<N→rE (6:Nat)∧rE (rtA a (f i).1)∧rE (duA a (f i))∧((if i<N then (-1:Int) else pdA a (stJ a f i) (f i))=if i<N then (-1:Int) else pdA a (stJ a f i) (f i))∧rE (arS a (stJ a f i) (f i))∧rE (nB a (stJ a f i) (f i))∧rE ((stJ a f i).1+(f i).3 - pdA a (stJ a f i) (f i) - nB a (stJ a f i) (f i))∧True)∧a.1=a.1∧a.2=a.2∧a.3=a.3∧a.4=a.4∧a.5=a.5∧a.6=a.6∧rE (0:Nat)∧z_1+(1:Nat)=z_2∧z_2=z_1+(1:Nat)∧(l9G5 a f z_1 j z_2)∧True)∧∀ (z:Nat),z=n→(0:Nat)<(1:Nat)∧(∃ (z_1:Nat),z_1≤n∧n=n∧(l9G11 n f)∧m=m∧(l9G9 m p)∧rE (0:Nat)∧rE (0:Nat)∧rE (0:Nat)∧n=n∧rE (0:Nat)∧m=m∧e=e∧rE (0:Nat)∧N=N∧rE (0:Nat)∧z=N∧(0:Int)=e∧rE (↑n:Int)∧(0:Int)=(↑z_1:Int)∧a.1=a.1∧a.2=a.2∧a.3=a.3∧a.4=a.4∧a.5=a.5∧a.6=a.6∧rE (0:Nat)∧n=n∧(l9G7 n f)∧rE (0:Nat)∧m=m∧(l9G6 m p)∧N=N∧(l9G1 a f N)∧N=z∧(l9G1 a f N)∧True)∧∀ (z:Nat),z≤n→(l9G3 a n f m p N e z)∧(l9G4 a n f m p N e z)))
def l9G2 (a:Ytfobgmecnlehaaa.Act) (n:Nat) (f:Nat→Yr) (m:Nat) (p:Nat→Pay) (N:Nat) (e:Int) (z:Nat):Prop:=((↑z:Int)<(↑N:Int)→(0:Int)≤(↑z:Int)∧(↑z:Int)<(↑N:Int)∧(2:Nat)+(1:Nat)≤(6:Nat)∧(0:Nat)+(↑z:Int).toNat<N∧(∀ (i':Nat),rE true)∧rI ((↑z:Int)+(1:Int))∧∃ (z_1:Nat),z_1≤N∧N - z_1<N - z∧n=n∧(l9G11 n f)∧m=m∧(l9G9 m p)∧rE (0:Nat)∧rE (0:Nat)∧rE (0:Nat)∧n=n∧rE (0:Nat)∧m=m∧rE (0:Nat)∧N=N∧e=e∧rE (0:Nat)∧N=N∧rE (↑N:Int)∧(↑z:Int)+(1:Int)=(↑z_1:Int)∧a.1=a.1∧a.2=a.2∧a.3=a.3∧a.4=a.4∧a.5=a.5∧a.6=a.6∧rE (0:Nat)∧n=n∧(l9G7 n f)∧rE (0:Nat)∧m=m∧(l9G6 m p)∧N=N∧(l9G1 a f N)∧N=N∧(∀ (i_2:Nat),i_2<N→rE (6:Nat)∧(if i_2=(0:Nat)+(↑z:Int).toNat then rtA a (f i_2).1 else rtA a (f i_2).1)=rtA a (f i_2).1∧(if i_2=(0:Nat)+(↑z:Int).toNat then duA a (f i_2) else duA a (f i_2))=duA a (f i_2)∧((if i_2=(0:Nat)+(↑z:Int).toNat then (-1:Int) else if i_2<z then (-1:Int) else pdA a (stJ a f i_2) (f i_2))=if i_2<z_1 then (-1:Int) else pdA a (stJ a f i_2) (f i_2))∧(if i_2=(0:Nat)+(↑z:Int).toNat then arS a (stJ a f i_2) (f i_2) else arS a (stJ a f i_2) (f i_2))=arS a (stJ a f i_2) (f i_2)∧(if i_2=(0:Nat)+(↑z:Int).toNat then nB a (stJ a f i_2) (f i_2) else nB a (stJ a f i_2) (f i_2))=nB a (stJ a f i_2) (f i_2)∧(if i_2=(0:Nat)+(↑z:Int).toNat then (stJ a f i_2).1+(f i_2).3 - pdA a (stJ a f i_2) (f i_2) - nB a (stJ a f i_2) (f i_2) else (stJ a f i_2).1+(f i_2).3 - pdA a (stJ a f i_2) (f i_2) - nB a (stJ a f i_2) (f i_2))=(stJ a f i_2).1+(f i_2).3 - pdA a (stJ a f i_2) (f i_2) - nB a (stJ a f i_2) (f i_2)∧True)∧True)
def l9G8 (m:Nat) (p:Nat→Pay):Prop:=(∀ (i:Nat),i<m→rE (6:Nat)∧(if i<(0:Nat) then (0:Int) else (p (i - (0:Nat))).1)=(p i).1∧(if i<(0:Nat) then (0:Int) else (p (i - (0:Nat))).2)=(p i).2∧(if i<(0:Nat) then (0:Int) else (p (i - (0:Nat))).3)=(p i).3∧(if i<(0:Nat) then (0:Int) else (p (i - (0:Nat))).4)=(p i).4∧(if i<(0:Nat) then (0:Int) else (p (i - (0:Nat))).5)=(p i).5∧(if i<(0:Nat) then (0:Int) else (p (i - (0:Nat))).6)=(p i).6∧True)
theorem l9G_vc (a:Ytfobgmecnlehaaa.Act) (n:Nat) (f:Nat→Yr) (m:Nat) (p:Nat→Pay) (N:Nat) (e:Int):l9G a n f m p N e =
(((24:Int)<(↑n:Int)→rE true∧True)∧(¬(24:Int)<(↑n:Int)→((30:Int)<(↑m:Int)→rE true∧True)∧(¬(30:Int)<(↑m:Int)→(∀ (i:Nat),i<n→rE true)∧rE (0:Nat)∧rE (0:Nat)∧(∀ (i:Nat),rE true)∧((0:Nat)+n)*(24:Nat)≤(140737488355328:Nat)∧(0:Nat)+n≤(4611686018427387904:Nat)∧(∀ (i:Nat),i<m→rE true)∧rE (0:Nat)∧rE (0:Nat)∧(∀ (i:Nat),rE true)∧((0:Nat)+m)*(48:Nat)≤(140737488355328:Nat)∧(0:Nat)+m≤(4611686018427387904:Nat)∧(0:Nat)<(1:Nat)∧(0:Nat)<(1:Nat)∧(∀ (i:Nat),i<n→True∧True∧True∧True)∧(SV.lst (3:Nat) n fun i=>(f i).sv)=yrL n f∧n<(1000:Nat)∧(¬erA a n f=(0:Int)→(∀ (i:Nat),i<(0:Nat)→false=true)∧rE (0:Nat)∧rE (0:Nat)∧rE (0:Nat)∧(0:Nat)*(48:Nat)≤(140737488355328:Nat)∧(0:Nat)≤(4611686018427387904 :
Nat)∧(∃ (z:Nat),z≤N∧n=n∧(l9G11 n f)∧m=m∧(l9G9 m p)∧rE (0:Nat)∧rE (0:Nat)∧rE (0:Nat)∧(0:Nat)+n=n∧rE (0:Nat)∧(0:Nat)+m=m∧rE (0:Nat)∧(0:Nat)=N∧erA a n f=e∧rE (0:Nat)∧(0:Nat)=N∧(↑(0:Nat):Int)=(↑N:Int)∧(0:Int)=(↑z:Int)∧a.1=a.1∧a.2=a.2∧a.3=a.3∧a.4=a.4∧a.5=a.5∧a.6=a.6∧rE (0:Nat)∧n=(0:Nat)+n∧(∀ (i:Nat),i<n→rE (3:Nat)∧(if i<(0:Nat) then (0:Int) else (f (i - (0:Nat))).1)=(f i).1∧(if i<(0:Nat) then (0:Int) else (f (i - (0:Nat))).2)=(f i).2∧(if i<(0:Nat) then (0:Int) else (f (i - (0:Nat))).3)=(f i).3∧True)∧rE (0:Nat)∧m=(0:Nat)+m∧(l9G8 m p)∧N=(0:Nat)∧(∀ (i:Nat),i<N→(6:Nat)=(1:Nat)∧False)∧N=(0:Nat)∧True)∧∀ (z:Nat),z≤N→(l9G2 a n f m p N e z)∧(l9G0 a n f m p N e z)) ∧
(¬¬erA a n f=(0:Int)→(0:Nat)<(1:Nat)∧(∀ (i:Nat),i<n→True∧True∧True∧True)∧(SV.lst (3:Nat) n fun i=>(f i).sv)=yrL n f∧(∀ (i:Nat),i<n→True∧True∧True∧True)∧(SV.lst (3:Nat) n fun i=>(yrF (fun i=>(f i).sv) i).sv)=yrL n (yrF fun i=>(yrF (fun i=>(f i).sv) i).sv)∧okA a∧okYs n (yrF fun i=>(yrF (fun i=>(f i).sv) i).sv)∧n≤(16:Nat)∧((True∧True∧True∧True∧True∧True∧True)∧((∀ (i:Nat),i<n→True∧True∧True∧True)∧True)∧∃ (z:Nat),z=(0:Nat)∧rE (0:Nat)∧rE (0:Nat)∧rE (Fn.func (51:FuncId))∧SV.denL a.cells=SV.denL [SV.int IntKind.i64 a.pr,SV.int IntKind.i64 a.dv,SV.int IntKind.i64 a.st,SV.int IntKind.i64 a.gn,SV.int IntKind.i64 a.mo,SV.int IntKind.i64 a.ba]∧(True∧True∧True∧True∧True∧True∧True)∧SV.denL [yrL n f]=SV.denL [SV.lst (3:Nat) n fun i=>(yrF (fun i
=> (f i).sv) i).sv]∧((∀ (i:Nat),i<n→True∧True∧True∧True)∧True)∧a.1=a.1∧a.2=a.2∧a.3=a.3∧a.4=a.4∧a.5=a.5∧a.6=a.6∧n=(0:Nat)+n∧(∀ (i:Nat),i<n→rE (3:Nat)∧(if i<(0:Nat) then (0:Int) else (f (i - (0:Nat))).1)=(f i).1∧(if i<(0:Nat) then (0:Int) else (f (i - (0:Nat))).2)=(f i).2∧(if i<(0:Nat) then (0:Int) else (f (i - (0:Nat))).3)=(f i).3∧True)∧m=(0:Nat)+m∧(l9G8 m p)∧a.1=a.1∧a.2=a.2∧a.3=a.3∧a.4=a.4∧a.5=a.5∧a.6=a.6∧rE (0:Nat)∧(0:Nat)=z∧z=(0:Nat)∧True)∧(∀ (j:Nat),j<n→∀ (z_1:Nat),z_1=j→(0:Nat)<(1:Nat)∧(0:Nat)<(1:Nat)∧True∧(∀ (i:Nat),i<(1:Nat)→rE true)∧rE (0:Nat)∧z_1=z_1∧(∀ (i:Nat),rE true)∧(z_1+(1:Nat))*(48:Nat)≤(140737488355328:Nat)∧z_1+(1:Nat)≤(4611686018427387904:Nat) ∧
∃ (z_2:Nat),z_2=j.succ∧a.1=a.1∧a.2=a.2∧a.3=a.3∧a.4=a.4∧a.5=a.5∧a.6=a.6∧n=n∧(l9G7 n f)∧m=m∧(l9G6 m p)∧a.1=a.1∧a.2=a.2∧a.3=a.3∧a.4=a.4∧a.5=a.5∧a.6=a.6∧rE (0:Nat)∧z_1+(1:Nat)=z_2∧z_2=z_1+(1:Nat)∧(l9G5 a f z_1 j z_2)∧True)∧∀ (z:Nat),z=n→(0:Nat)<(1:Nat)∧(0:Nat)+z≤z∧(∀ (i_1:Nat),i_1<z→rE true)∧rE (0:Nat)∧rE (0:Nat)∧(∀ (i:Nat),rE true)∧((0:Nat)+z)*(48:Nat)≤(140737488355328:Nat)∧(0:Nat)+z≤(4611686018427387904:Nat)∧(∃ (z_1:Nat),z_1≤N∧n=n∧(l9G11 n f)∧m=m∧(l9G9 m p)∧rE (0:Nat)∧rE (0:Nat)∧rE (0:Nat)∧(0:Nat)+n=n∧rE (0:Nat)∧(0:Nat)+m=m∧rE (0:Nat)∧z=N∧(0:Int)=e∧rE (0:Nat)∧(0:Nat)+z=N∧(↑z:Int)=(↑N:Int)∧(0:Int)=(↑z_1:Int)∧a.1=a.1∧a.2=a.2∧a.3=a.3
∧ a.4=a.4∧a.5=a.5∧a.6=a.6∧rE (0:Nat)∧n=n∧(l9G7 n f)∧rE (0:Nat)∧m=m∧(l9G6 m p)∧N=(0:Nat)+z∧(∀ (i:Nat),i<N→rE (6:Nat)∧(if i<(0:Nat) then (0:Int) else rtA a (f (i - (0:Nat)+(0:Nat))).1)=rtA a (f i).1∧(if i<(0:Nat) then (0:Int) else duA a (f (i - (0:Nat)+(0:Nat))))=duA a (f i)∧(if i<(0:Nat) then (0:Int) else pdA a (stJ a f (i - (0:Nat)+(0:Nat))) (f (i - (0:Nat)+(0:Nat))))=pdA a (stJ a f i) (f i)∧(if i<(0:Nat) then (0:Int) else arS a (stJ a f (i - (0:Nat)+(0:Nat))) (f (i - (0:Nat)+(0:Nat))))=arS a (stJ a f i) (f i)∧(if i<(0:Nat) then (0:Int) else nB a (stJ a f (i - (0:Nat)+(0:Nat))) (f (i - (0:Nat)+(0:Nat))))=nB a (stJ a f i) (f i)∧(if i<(0:Nat) then (0:Int) else (stJ a f (i - (0:Nat)+(0:Nat))).1+(f (i - (0:Nat)+(0:Nat))).3 -
pdA a (stJ a f (i - (0:Nat)+(0:Nat))) (f (i - (0:Nat)+(0:Nat))) - nB a (stJ a f (i - (0:Nat)+(0:Nat))) (f (i - (0:Nat)+(0:Nat))))=(stJ a f i).1+(f i).3 - pdA a (stJ a f i) (f i) - nB a (stJ a f i) (f i)∧True)∧N=z∧(∀ (i_2:Nat),i_2<N→rE (6:Nat)∧rE (rtA a (f i_2).1)∧rE (duA a (f i_2))∧(pdA a (stJ a f i_2) (f i_2)=if i_2<z_1 then (-1:Int) else pdA a (stJ a f i_2) (f i_2))∧rE (arS a (stJ a f i_2) (f i_2))∧rE (nB a (stJ a f i_2) (f i_2))∧rE ((stJ a f i_2).1+(f i_2).3 - pdA a (stJ a f i_2) (f i_2) - nB a (stJ a f i_2) (f i_2))∧True)∧True)∧∀ (z:Nat),z≤N→(l9G2 a n f m p N e z)∧(l9G0 a n f m p N e z))))):=by kernel_rfl
end Go.Proofs.Ytfobgmecnlehaaa

set_option maxRecDepth 100000
namespace Go.Proofs.Ytfobgmecnlehaaa
open Go Go.Lg
attribute [local irreducible] funS bodyH
theorem yrL1 (n:Nat) (f:Nat→Yr):(SV.lst 3 n fun i=>(f i).sv)=yrL n f:=rfl
theorem o1_true (a:Act) (f:Nat→Yr) (N:Nat):l9G1 a f N:=by
 unfold l9G1; simp only [rE,and_true,implies_true]
theorem o6_true (m:Nat) (p:Nat→Pay):l9G6 m p:=by
 unfold l9G6; simp only [rE,and_true,implies_true]
theorem o7_true (n:Nat) (f:Nat→Yr):l9G7 n f:=by
 unfold l9G7; simp only [rE,and_true,implies_true]
theorem o9_true (m:Nat) (p:Nat→Pay):l9G9 m p:=by
 unfold l9G9; simp only [rE,and_true,implies_true]
theorem o11_true (n:Nat) (f:Nat→Yr):l9G11 n f:=by
 unfold l9G11; simp only [rE,and_true,implies_true]
theorem o10_true (p:Nat→Pay):l9G10 p:=by
 unfold l9G10; simp only [rE,and_true,implies_true]
theorem o8_true (m:Nat) (p:Nat→Pay):l9G8 m p:=by
 unfold l9G8; simp only [rE,and_true,implies_true,Nat.not_lt_zero,if_false,Nat.sub_zero]
theorem o5_true (a:Act) (f:Nat→Yr) (z:Nat):l9G5 a f z z (z+1):=by
 unfold l9G5
 simp only [rE,and_true,true_and,yrF2,yrF1]
 exact fun i hi=>⟨app_eq (f:=fun i=>rtA a (f i).pr) hi rfl,app_eq (f:=fun i=>duA a (f i)) hi rfl,app_eq (f:=fun i=>pdA a (stJ a f i) (f i)) hi rfl,app_eq (f:=fun i=>arS a (stJ a f i) (f i)) hi rfl,app_eq (f:=fun i=>nB a (stJ a f i) (f i)) hi rfl,app_eq (f:=fun i=>(stJ a f i).ba+(f i).pf - pdA a (stJ a f i) (f i) - nB a (stJ a f i) (f i)) hi rfl⟩
theorem o3_true {a:Act} {n:Nat} {f:Nat→Yr} {m:Nat} {p:Nat→Pay} {N:Nat} {e:Int} {z:Nat} (hn:n≤24):l9G3 a n f m p N e z:=by
 unfold l9G3
 simp only [rI,rE,o1_true,o6_true,o7_true,o9_true,o11_true,and_true,true_and,Int.toNat_natCast,Nat.zero_add,Bool.false_eq_true,imp_false,not_true_eq_false,not_false_eq_true,true_implies]
 exact fun h=>⟨by omega,by omega,by omega,by omega,by omega,by omega,z+1,by omega,by omega,by omega⟩
theorem o4_true {a:Act} {n:Nat} {f:Nat→Yr} {m:Nat} {p:Nat→Pay} {N:Nat} {e:Int} {z:Nat} (hm:m≤30) (hN:N≤24):l9G4 a n f m p N e z:=by
 unfold l9G4
 simp only [rI,rE,o1_true,o6_true,o7_true,o9_true,o11_true,and_true,true_and,Nat.add_zero,Nat.zero_add,pyF1,pyL1,yrL1,Bool.false_eq_true,imp_false,Classical.not_not,implies_true,not_true_eq_false,not_false_eq_true,true_implies]
 exact fun h=>⟨by omega,by omega,by omega,fun _=>⟨by omega,by omega,by omega,by omega,fun _ _=>rfl⟩,fun _ _=>rfl⟩
theorem o2_true {a:Act} {n:Nat} {f:Nat→Yr} {m:Nat} {p:Nat→Pay} {N:Nat} {e:Int} {z:Nat} (hN:N≤24):l9G2 a n f m p N e z:=by
 unfold l9G2
 simp only [rI,rE,o1_true,o6_true,o7_true,o9_true,o11_true,and_true,true_and,Int.toNat_natCast,Nat.zero_add,ite_self,implies_true]
 refine fun h=>⟨by omega,by omega,by omega,by omega,by omega,z+1,by omega,by omega,by omega,fun i hi=>?_⟩
 by_cases h1:i=z
 ·rw [if_pos h1,if_pos (by omega)]
 ·rw [if_neg h1]
  by_cases h2:i<z
  ·rw [if_pos h2,if_pos (by omega)]
  ·rw [if_neg h2,if_neg (by omega)]
theorem ng_if {i z N:Nat} {x:Int} (hi:i<N) (hz:¬ (z:Int)<N):(if i<z then -1 else x)=if i<N then -1 else x:=by
 rw [if_pos (by omega),if_pos hi]
theorem o0_true {a:Act} {n:Nat} {f:Nat→Yr} {m:Nat} {p:Nat→Pay} {z:Nat} (hn:n≤24) (hm:m≤30):l9G0 a n f m p (ruN a n f) (erA a n f) z:=by
 have hr:=ru_le a n f
 have q3:=fun z=>o3_true (a:=a) (f:=f) (m:=m) (p:=p) (N:=ruN a n f) (e:=erA a n f) (z:=z) hn
 have q4:=fun z=>o4_true (a:=a) (n:=n) (f:=f) (p:=p) (N:=ruN a n f) (e:=erA a n f) (z:=z) hm (by omega)
 unfold l9G0
 by_cases he:erA a n f=0
 ·obtain ⟨h1,h2,h3⟩:=erA_0 he
  have r:=ruN0 he
  rw [he,r] at q3 q4
  simp only [he,r,q3,q4,rI,rE,o1_true,o6_true,o7_true,o9_true,o11_true,o10_true,a_fold,yrF_fold,yrF2,yrF1,pyF1,pyL1,yrL1,and_true,true_and,Nat.zero_lt_one,Nat.zero_add,Nat.add_zero,implies_true,and_self,not_true_eq_false,not_false_eq_true,false_implies,true_implies]
  refine fun hz=>⟨by omega,by omega,by omega,by omega,h1,h3,h2,⟨0,rfl,rfl,fun i hi=>ng_if hi hz,rfl,rfl⟩,fun j hj z hz'=>?_,fun z hz'=>?_⟩
  ·subst hz'
   exact ⟨by omega,by omega,z+1,rfl,rfl,rfl,o5_true a f z⟩
  ·subst hz'
   exact ⟨0,by omega,rfl,rfl,rfl⟩
 ·have r:=ruN1 he
  rw [r] at q3 q4
  simp only [he,r,q3,q4,rI,rE,o1_true,o6_true,o7_true,o9_true,o11_true,o10_true,a_fold,yrF_fold,yrF2,yrF1,pyF1,pyL1,yrL1,and_true,true_and,Nat.zero_lt_one,Nat.zero_add,Nat.add_zero,implies_true,and_self,not_true_eq_false,not_false_eq_true,false_implies,true_implies]
  exact fun hz=>⟨by omega,by omega,by omega,by omega,0,by omega,rfl⟩
theorem l9_true (a:Act) (n:Nat) (f:Nat→Yr) (m:Nat) (p:Nat→Pay):l9G a n f m p (ruN a n f) (erA a n f):=by
 rw [l9G_vc]
 have hr:=ru_le a n f
 refine ⟨fun _=>by simp only [rE,and_true],fun h24=>⟨fun _=>by simp only [rE,and_true],fun h30=>?_⟩⟩
 have q2:=fun z=>o2_true (a:=a) (n:=n) (f:=f) (m:=m) (p:=p) (N:=ruN a n f) (e:=erA a n f) (z:=z) (by omega)
 have q0:=fun z=>o0_true (a:=a) (n:=n) (f:=f) (m:=m) (p:=p) (z:=z) (by omega) (by omega)
 by_cases he:erA a n f=0
 ·obtain ⟨h1,h2,h3⟩:=erA_0 he
  have r:=ruN0 he
  rw [he,r] at q2 q0
  simp only [he,r,q2,q0,rI,rE,o1_true,o6_true,o7_true,o8_true,o9_true,o11_true,o10_true,a_fold,yrF_fold,yrF2,yrF1,pyF1,pyL1,yrL1,and_true,true_and,Nat.zero_lt_one,Nat.zero_add,Nat.add_zero,Nat.sub_zero,Nat.not_lt_zero,if_false,implies_true,and_self,not_true_eq_false,not_false_eq_true,false_implies,true_implies]
  refine ⟨by omega,by omega,by omega,by omega,by omega,h1,h3,h2,⟨0,rfl,rfl,rfl,rfl⟩,fun j hj z hz'=>?_,fun z hz'=>?_⟩
  ·subst hz'
   exact ⟨by omega,by omega,z+1,rfl,rfl,rfl,o5_true a f z⟩
  ·subst hz'
   exact ⟨by omega,by omega,by omega,0,by omega,rfl,rfl,rfl,rfl,rfl,rfl,fun i hi=>by rw [if_neg (Nat.not_lt_zero i)]⟩
 ·have r:=ruN1 he
  rw [r] at q2 q0
  simp only [he,r,q2,q0,rI,rE,o1_true,o6_true,o7_true,o8_true,o9_true,o11_true,o10_true,a_fold,yrF_fold,yrF2,yrF1,pyF1,pyL1,yrL1,and_true,true_and,Nat.zero_lt_one,Nat.zero_add,Nat.add_zero,Nat.sub_zero,Nat.not_lt_zero,if_false,implies_true,and_self,not_true_eq_false,not_false_eq_true,false_implies,true_implies]
  exact ⟨by omega,by omega,by omega,by omega,by omega,by omega,by omega,0,by omega,rfl⟩
end Go.Proofs.Ytfobgmecnlehaaa
