import Derived.Test.YtfobgmecnlehaaaEkEkVElEmEnEnVEp
set_option linter.unusedVariables false
set_option linter.unusedSimpArgs false
namespace Go.Proofs.Ytfobgmecnlehaaa
open Go Go.Lg
attribute [local irreducible] bodyH funS
def upd (f:Nat→Yr) (k:Nat) (p:Int) (i:Nat):Yr:=⟨(f i).pr,(f i).cp,if i=k then p else (f i).pf⟩
noncomputable def mrY (f:Nat→Yr) (n K:Nat) (p:Int):Nat→Yr:=yrF fun i=>putR (rowsK (Try.prog.cellsOf 47) (0+n) (appF 0 (rowsK (Try.prog.cellsOf 47) 0 fun x=>ofS (Value.agg #[Value.int IntKind.i64 0,Value.int IntKind.i64 0,Value.int IntKind.i64 0])).f fun i=>(f i).sv)).f (0+K) (Nat.succ 1) (SV.int IntKind.i64 p) (i+0)
noncomputable def cxM:CX:=inl Try.prog csL none (ictrs []) 25 noL noL noX
noncomputable def mrF (a:Act) (n:Nat) (f g:Nat→Yr) (l:List (Nat × SV)):FS:=mkF 288 ([(4,.ptr 0 0 0),(5,.ptr 1 0 0),(9,pyL n (pyJ a f)),(11,.ptr 2 0 0),(12,.clo (.func 25) [] [.ptr 1 0 0,.ptr 2 0 0,.ptr 0 0 0]),(13,pyL n (pyJ a g)),(100,pyL n (pyJ a f)),(101,i6 n)] ++ l)
noncomputable def l8G (a:Act) (n:Nat) (f:Nat→Yr) (k:Nat) (P:Int) (w b:Int):Prop:=funH Try.prog csL cxM (ictrs [])
 (oneL 0 (natH (fun j=>j≤n) (fun j=>n - j) 3 (fun j=>mrF a n f (upd f k P) [(102,i6 j)]) (fun _=>mkX [vr 6 a.sv,vr 1 (yrL n f),vr 1 (i6 k)]) fun _=>none)) noL
 8 [a.sv,yrL n f,.int .u8 w,.int .u32 b] (.bool true)
end Go.Proofs.Ytfobgmecnlehaaa

set_option maxRecDepth 100000
namespace Go.Proofs.Ytfobgmecnlehaaa
open Go Go.Lg
def l8G0 (a:Ytfobgmecnlehaaa.Act) (n:Nat) (f:Nat→Yr) (k:Nat) (P:Int) (z:Nat):Prop:=(¬nB a (stJ a (upd f k P) (↑z:Int).toNat) (upd f k P (↑z:Int).toNat)<nB a (stJ a f (↑z:Int).toNat) (f (↑z:Int).toNat)→(0:Int)≤(↑z:Int)∧(↑z:Int)<(↑n:Int)∧(0:Int)≤(↑z:Int)∧(↑z:Int)<(↑n:Int)∧(arS a (stJ a f (↑z:Int).toNat) (f (↑z:Int).toNat)<arS a (stJ a (upd f k P) (↑z:Int).toNat) (upd f k P (↑z:Int).toNat)→false=true∧True)∧(¬arS a (stJ a f (↑z:Int).toNat) (f (↑z:Int).toNat)<arS a (stJ a (upd f k P) (↑z:Int).toNat) (upd f k P (↑z:Int).toNat)→(0:Int)≤(↑z:Int)∧(↑z:Int)<(↑n:Int)∧(0:Int)≤(↑z:Int)∧(↑z:Int)<(↑n:Int)∧(¬duA a (upd f k P (↑z:Int).toNat)=duA a (f (↑z:Int).toNat)→false=true∧True)∧(¬¬duA a (upd f k P (↑z:Int).toNat)=duA a (f (↑z:Int).toNat)→rI ((↑z:Int)+(1:Int))∧∃ (z_1:Nat),z_1≤n∧n - z_1<n - z∧rE (0:Nat)∧rE (0:Nat)∧rE (0:Nat)∧rE (0:Nat)∧n=n∧(∀ (i:Nat),i<n→rE ((pyJ a f i).sv.den)∧True∧True∧True∧True∧True∧True∧True)∧rE (0:Nat)∧rE (0:Nat)∧rE (Fn.func (25:FuncId))∧rE (0:Nat)∧rE (0:Nat)∧rE (0:Nat)∧rE (0:Nat)∧rE (0:Nat)∧rE (0:Nat)∧n=n∧(∀ (i:Nat),i<n→rE ((pyJ a (upd f k P) i).sv.den)∧True∧True∧True∧True∧True∧True∧True)∧n=n∧(∀ (i:Nat),i<n→rE ((pyJ a f i).sv.den)∧True∧True∧True∧True∧True∧True∧True)∧rE (↑n:Int)∧(↑z:Int)+(1:Int)=(↑z_1:Int)∧a.1=a.1∧a.2=a.2∧a.3=a.3∧a.4=a.4∧a.5=a.5∧a.6=a.6∧n=n∧(∀ (i:Nat),i<n→rE ((f i).sv.den)∧True∧True∧True∧True)∧rE (↑k:Int)∧True)))
def l8G4 (n:Nat):Prop:=(∀ (i:Nat),i<(0:Nat)+n→rE (3:Nat)∧True∧True∧True∧True)
def l8G1 (a:Ytfobgmecnlehaaa.Act) (n:Nat) (f:Nat→Yr) (k:Nat):Prop:=(¬erA a ((0:Nat)+n) (mrY f n ((↑k:Int).toNat) (neN a n f (↑k:Int)))=(0:Int)→rI (neN a n f (↑k:Int) - (1:Int))∧(0:Nat)<(1:Nat)∧(∀ (i:Nat),i<n→rE true)∧rE (0:Nat)∧rE (0:Nat)∧(∀ (i:Nat),rE true)∧((0:Nat)+n)*(24:Nat)≤(140737488355328:Nat)∧(0:Nat)+n≤(4611686018427387904:Nat)∧(0:Nat)<(1:Nat)∧(0:Int)≤(↑k:Int)∧(↑k:Int)<(↑((0:Nat)+n):Int)∧(2:Nat)+(1:Nat)≤(3:Nat)∧(0:Nat)+(↑k:Int).toNat<(0:Nat)+n∧(∀ (i':Nat),rE true)∧(0:Nat)<(1:Nat)∧(0:Nat)+((0:Nat)+n)≤(0:Nat)+n∧(l8G4 n)∧(SV.lst (3:Nat) ((0:Nat)+n) fun i=>putR (rowsK (Try.prog.cellsOf (47:Nat)) ((0:Nat)+n) (appF (0:Nat) (rowsK (Try.prog.cellsOf (47:Nat)) (0:Nat) fun x=>ofS (Value.agg #[Value.int IntKind.i64 (0:Int),Value.int IntKind.i64 (0:Int),Value.int IntKind.i64 (0:Int)])).f fun i=>(f i).sv)).f ((0:Nat)+(↑k:Int).toNat) (Nat.succ (1:Nat)) (SV.int IntKind.i64 (neN a n f (↑k:Int) - (1:Int))) (i+(0:Nat)))=yrL ((0:Nat)+n) (mrY f n ((↑k:Int).toNat) (neN a n f (↑k:Int) - (1:Int)))∧(0:Nat)+n<(1000:Nat)∧(erA a ((0:Nat)+n) (mrY f n ((↑k:Int).toNat) (neN a n f (↑k:Int) - (1:Int)))=(0:Int)→(0:Nat)<(1:Nat)∧false=true∧True)∧(¬erA a ((0:Nat)+n) (mrY f n ((↑k:Int).toNat) (neN a n f (↑k:Int) - (1:Int)))=(0:Int)→false=true∧True))
def l8G2 (a:Ytfobgmecnlehaaa.Act) (f:Nat→Yr) (k:Nat) (P:Int) (z:Nat):Prop:=(rE (rtA a (f (↑z:Int).toNat).1)∧duA a (upd f k P (↑z:Int).toNat)=duA a (f (↑z:Int).toNat)∧pdA a (stJ a (upd f k P) (↑z:Int).toNat) (upd f k P (↑z:Int).toNat)=pdA a (stJ a f (↑z:Int).toNat) (f (↑z:Int).toNat)∧arS a (stJ a (upd f k P) (↑z:Int).toNat) (upd f k P (↑z:Int).toNat)=arS a (stJ a f (↑z:Int).toNat) (f (↑z:Int).toNat)∧nB a (stJ a (upd f k P) (↑z:Int).toNat) (upd f k P (↑z:Int).toNat)=nB a (stJ a f (↑z:Int).toNat) (f (↑z:Int).toNat)∧((stJ a (upd f k P) (↑z:Int).toNat).1+if (↑z:Int).toNat=k then P else (f (↑z:Int).toNat).3) - pdA a (stJ a (upd f k P) (↑z:Int).toNat) (upd f k P (↑z:Int).toNat) - nB a (stJ a (upd f k P) (↑z:Int).toNat) (upd f k P (↑z:Int).toNat)=(stJ a f (↑z:Int).toNat).1+(f (↑z:Int).toNat).3 - pdA a (stJ a f (↑z:Int).toNat) (f (↑z:Int).toNat) - nB a (stJ a f (↑z:Int).toNat) (f (↑z:Int).toNat)∧True)
def l8G3 (a:Ytfobgmecnlehaaa.Act) (n:Nat) (f:Nat→Yr) (k:Nat):Prop:=(¬((stJ a (mrY f n ((↑k:Int).toNat) (neN a n f (↑k:Int))) (↑k:Int).toNat).1+if (↑k:Int).toNat+(0:Nat)=(0:Nat)+(↑k:Int).toNat then neN a n f (↑k:Int) else if (↑k:Int).toNat+(0:Nat)<(0:Nat) then (0:Int) else (f ((↑k:Int).toNat+(0:Nat) - (0:Nat))).3) - pdA a (stJ a (mrY f n ((↑k:Int).toNat) (neN a n f (↑k:Int))) (↑k:Int).toNat) (mrY f n ((↑k:Int).toNat) (neN a n f (↑k:Int)) (↑k:Int).toNat) - nB a (stJ a (mrY f n ((↑k:Int).toNat) (neN a n f (↑k:Int))) (↑k:Int).toNat) (mrY f n ((↑k:Int).toNat) (neN a n f (↑k:Int)) (↑k:Int).toNat)=(0:Int)→false=true∧True)
def l8G5 (a:Ytfobgmecnlehaaa.Act) (f:Nat→Yr) (k:Nat):Prop:=(ruN a ((↑k:Int)+(1:Int) - (0:Int)).toNat (yrF fun i=>(f (Int.toNat (0:Int)+i)).sv)=((↑k:Int)+(1:Int) - (0:Int)).toNat∧eqP (ruN a ((↑k:Int)+(1:Int) - (0:Int)).toNat (yrF fun i=>(f (Int.toNat (0:Int)+i)).sv)) (pyF fun i=>(pyJ a (yrF fun i=>(f (Int.toNat (0:Int)+i)).sv) i).sv) (pyF fun i=>(pyJ a f (Int.toNat (0:Int)+i)).sv))
def l8G6 (a:Ytfobgmecnlehaaa.Act) (n:Nat) (f:Nat→Yr) (k:Nat):Prop:=(¬erA a ((0:Nat)+n) (mrY f n ((↑k:Int).toNat) (neN a n f (↑k:Int) - (1:Int)))=(0:Int)→((↑(ruN a ((0:Nat)+n) (mrY f n ((↑k:Int).toNat) (neN a n f (↑k:Int)))):Int)=(↑n:Int)→false=true∧True)∧(¬(↑(ruN a ((0:Nat)+n) (mrY f n ((↑k:Int).toNat) (neN a n f (↑k:Int)))):Int)=(↑n:Int)→false=true∧True))
theorem l8G_vc (a:Ytfobgmecnlehaaa.Act) (n:Nat) (f:Nat→Yr) (k:Nat) (P:Int) (w:Int) (b:Int):l8G a n f k P w b =
((0:Nat)<(1:Nat)∧((24:Int)<(↑n:Int)→rE true∧True)∧(¬(24:Int)<(↑n:Int)→(0:Nat)<(1:Nat)∧((↑n:Int)=(0:Int)→rE true∧True)∧(¬(↑n:Int)=(0:Int)→(0:Nat)<(1:Nat)∧(0:Nat)<(1:Nat)∧(∀ (i:Nat),i<n→True∧True∧True∧True)∧(SV.lst (3:Nat) n fun i=>(f i).sv)=yrL n f∧n<(1000:Nat)∧(¬erA a n f=(0:Int)→((↑(ruN a n f):Int)=(0:Int)→rE true∧True)∧(¬(↑(ruN a n f):Int)=(0:Int)→false=true∧True))∧(¬¬erA a n f=(0:Int)→(0:Nat)<(1:Nat)∧(¬(↑(ruN a n f):Int)=(↑n:Int)→false=true∧True)∧(¬¬(↑(ruN a n f):Int)=(↑n:Int)→rI (w)∧(0:Nat)<(1:Nat)∧((↑n:Int)=(0:Int)→False)∧(0:Nat)<(1:Nat)∧(0:Nat)<(1:Nat)∧(0:Int)≤w.tmod (↑n:Int)∧w.tmod (↑n:Int)<(↑n:Int)∧rI (b)∧rI ((f (w.tmod (↑n:Int)).toNat).3+b)∧(0:Nat) <
(1:Nat)∧(∀ (i:Nat),i<n→rE true)∧rE (0:Nat)∧rE (0:Nat)∧(∀ (i:Nat),rE true)∧((0:Nat)+n)*(24:Nat)≤(140737488355328:Nat)∧(0:Nat)+n≤(4611686018427387904:Nat)∧(0:Nat)<(1:Nat)∧(0:Int)≤w.tmod (↑n:Int)∧w.tmod (↑n:Int)<(↑((0:Nat)+n):Int)∧(2:Nat)+(1:Nat)≤(3:Nat)∧(0:Nat)+(w.tmod (↑n:Int)).toNat<(0:Nat)+n∧(∀ (i':Nat),rE true)∧(0:Nat)<(1:Nat)∧(0:Nat)+((0:Nat)+n)≤(0:Nat)+n∧(l8G4 n)∧(SV.lst (3:Nat) ((0:Nat)+n) fun i=>putR (rowsK (Try.prog.cellsOf (47:Nat)) ((0:Nat)+n) (appF (0:Nat) (rowsK (Try.prog.cellsOf (47:Nat)) (0:Nat) fun x=>ofS (Value.agg #[Value.int IntKind.i64 (0:Int),Value.int IntKind.i64 (0:Int),Value.int IntKind.i64 (0:Int)])).f fun i=>(f i).sv)).f ((0:Nat)+(w.tmod (↑n:Int)).toNat) (Nat.succ (1:Nat)) (SV.int
IntKind.i64 (min (1099511627776:Int) ((f (w.tmod (↑n:Int)).toNat).pf+b))) (i+(0:Nat)))=yrL ((0:Nat)+n) (mrY f n ((w.tmod (↑n:Int)).toNat) (min (1099511627776:Int) ((f (w.tmod (↑n:Int)).toNat).pf+b)))∧(0:Nat)+n<(1000:Nat)∧(erA a ((0:Nat)+n) (mrY f n ((w.tmod (↑n:Int)).toNat) (min (1099511627776:Int) ((f (w.tmod (↑n:Int)).toNat).pf+b)))=(0:Int)→(0:Nat)<(1:Nat)∧(¬(↑(ruN a ((0:Nat)+n) (mrY f n ((w.tmod (↑n:Int)).toNat) (min (1099511627776:Int) ((f (w.tmod (↑n:Int)).toNat).pf+b)))):Int)=(↑n:Int)→false=true∧True)∧(¬¬(↑(ruN a ((0:Nat)+n) (mrY f n ((w.tmod (↑n:Int)).toNat) (min (1099511627776:Int) ((f (w.tmod (↑n:Int)).toNat).pf+b)))):Int)=(↑n:Int)→(0:Nat)<(1:Nat)∧(0:Int)≤w.tmod (↑n:Int)∧w.tmod (↑n:Int)<(↑(ruN a ((0:Nat)+n) (mrY f n ((w.tmod (↑n:Int)).toNat) (min
(1099511627776:Int) ((f (w.tmod (↑n:Int)).toNat).pf+b)))):Int)∧(0:Nat)<(1:Nat)∧(0:Int)≤w.tmod (↑n:Int)∧w.tmod (↑n:Int)<(↑(ruN a n f):Int)∧(pdA a (stJ a (mrY f n ((w.tmod (↑n:Int)).toNat) (min (1099511627776:Int) ((f (w.tmod (↑n:Int)).toNat).pf+b))) (w.tmod (↑n:Int)).toNat) (mrY f n ((w.tmod (↑n:Int)).toNat) (min (1099511627776:Int) ((f (w.tmod (↑n:Int)).toNat).pf+b)) (w.tmod (↑n:Int)).toNat)<pdA a (stJ a f (w.tmod (↑n:Int)).toNat) (yrF (fun i=>(f i).sv) (w.tmod (↑n:Int)).toNat)→false=true∧True)∧(¬pdA a (stJ a (mrY f n ((w.tmod (↑n:Int)).toNat) (min (1099511627776:Int) ((f (w.tmod (↑n:Int)).toNat).pf+b))) (w.tmod (↑n:Int)).toNat) (mrY f n ((w.tmod (↑n:Int)).toNat) (min (1099511627776:Int) ((f (w.tmod (↑n:Int)).toNat).pf+b)) (w.tmod (↑n:Int)).toNat)<pdA a (stJ a f (w.tmod (↑n:Int)).toNat) (yrF
(fun i=>(f i).sv) (w.tmod (↑n:Int)).toNat)→(0:Nat)<(1:Nat)∧(0:Int)≤w.tmod (↑n:Int)∧w.tmod (↑n:Int)<(↑(ruN a ((0:Nat)+n) (mrY f n ((w.tmod (↑n:Int)).toNat) (min (1099511627776:Int) ((f (w.tmod (↑n:Int)).toNat).pf+b)))):Int)∧(0:Nat)<(1:Nat)∧(0:Int)≤w.tmod (↑n:Int)∧w.tmod (↑n:Int)<(↑(ruN a n f):Int)∧(((stJ a (mrY f n ((w.tmod (↑n:Int)).toNat) (min (1099511627776:Int) ((f (w.tmod (↑n:Int)).toNat).pf+b))) (w.tmod (↑n:Int)).toNat).1+if (w.tmod (↑n:Int)).toNat+(0:Nat)=(0:Nat)+(w.tmod (↑n:Int)).toNat then min (1099511627776:Int) ((f (w.tmod (↑n:Int)).toNat).3+b) else if (w.tmod (↑n:Int)).toNat+(0:Nat)<(0:Nat) then (0:Int) else (f ((w.tmod (↑n:Int)).toNat+(0:Nat) - (0:Nat))).3) - pdA a (stJ a (mrY f n ((w.tmod (↑n:Int)).toNat) (min (1099511627776:Int) ((f (w.tmod (↑n :
Int)).toNat).pf+b))) (w.tmod (↑n:Int)).toNat) (mrY f n ((w.tmod (↑n:Int)).toNat) (min (1099511627776:Int) ((f (w.tmod (↑n:Int)).toNat).pf+b)) (w.tmod (↑n:Int)).toNat) - nB a (stJ a (mrY f n ((w.tmod (↑n:Int)).toNat) (min (1099511627776:Int) ((f (w.tmod (↑n:Int)).toNat).pf+b))) (w.tmod (↑n:Int)).toNat) (mrY f n ((w.tmod (↑n:Int)).toNat) (min (1099511627776:Int) ((f (w.tmod (↑n:Int)).toNat).pf+b)) (w.tmod (↑n:Int)).toNat)<(stJ a f (w.tmod (↑n:Int)).toNat).1+(f (w.tmod (↑n:Int)).toNat).3 - pdA a (stJ a f (w.tmod (↑n:Int)).toNat) (yrF (fun i=>(f i).sv) (w.tmod (↑n:Int)).toNat) - nB a (stJ a f (w.tmod (↑n:Int)).toNat) (yrF (fun i=>(f i).sv) (w.tmod (↑n:Int)).toNat)→false=true∧True)∧(¬((stJ a (mrY f n ((w.tmod (↑n:Int)).toNat) (min (1099511627776:Int) ((f (w.tmod (↑n:Int)).toNat).pf+b))) (w.tmod (↑n:Int)).toNat).1+if
(w.tmod (↑n:Int)).toNat+(0:Nat)=(0:Nat)+(w.tmod (↑n:Int)).toNat then min (1099511627776:Int) ((f (w.tmod (↑n:Int)).toNat).3+b) else if (w.tmod (↑n:Int)).toNat+(0:Nat)<(0:Nat) then (0:Int) else (f ((w.tmod (↑n:Int)).toNat+(0:Nat) - (0:Nat))).3) - pdA a (stJ a (mrY f n ((w.tmod (↑n:Int)).toNat) (min (1099511627776:Int) ((f (w.tmod (↑n:Int)).toNat).pf+b))) (w.tmod (↑n:Int)).toNat) (mrY f n ((w.tmod (↑n:Int)).toNat) (min (1099511627776:Int) ((f (w.tmod (↑n:Int)).toNat).pf+b)) (w.tmod (↑n:Int)).toNat) - nB a (stJ a (mrY f n ((w.tmod (↑n:Int)).toNat) (min (1099511627776:Int) ((f (w.tmod (↑n:Int)).toNat).pf+b))) (w.tmod (↑n:Int)).toNat) (mrY f n ((w.tmod (↑n:Int)).toNat) (min (1099511627776:Int) ((f (w.tmod (↑n:Int)).toNat).pf+b)) (w.tmod (↑n:Int)).toNat)<(stJ a f (w.tmod (↑n:Int)).toNat).1+(f (w.tmod (↑n :
Int)).toNat).3 - pdA a (stJ a f (w.tmod (↑n:Int)).toNat) (yrF (fun i=>(f i).sv) (w.tmod (↑n:Int)).toNat) - nB a (stJ a f (w.tmod (↑n:Int)).toNat) (yrF (fun i=>(f i).sv) (w.tmod (↑n:Int)).toNat)→(∃ (z:Nat),z≤n∧rE (0:Nat)∧rE (0:Nat)∧rE (0:Nat)∧rE (0:Nat)∧ruN a n f=n∧(∀ (i:Nat),i<n→(pyJ a f i).sv.den=(pyJ a f i).sv.den∧True∧True∧True∧True∧True∧True∧True)∧rE (0:Nat)∧rE (0:Nat)∧Fn.func (25:Nat)=Fn.func (25:FuncId)∧rE (0:Nat)∧rE (0:Nat)∧rE (0:Nat)∧rE (0:Nat)∧rE (0:Nat)∧rE (0:Nat)∧ruN a ((0:Nat)+n) (mrY f n ((w.tmod (↑n:Int)).toNat) (min (1099511627776:Int) ((f (w.tmod (↑n:Int)).toNat).pf+b)))=n∧(∀ (i:Nat),i<n→(pyJ a (mrY f n ((w.tmod (↑n:Int)).toNat) (min (1099511627776:Int) ((f (w.tmod (↑n:Int)).toNat).pf+b))) i).sv.den=(pyJ a (upd f k P) i).sv.den∧True
∧ True∧True∧True∧True∧True∧True)∧ruN a n f=n∧(∀ (i:Nat),i<n→(pyJ a f i).sv.den=(pyJ a f i).sv.den∧True∧True∧True∧True∧True∧True∧True)∧(↑(ruN a n f):Int)=(↑n:Int)∧(0:Int)=(↑z:Int)∧a.1=a.1∧a.2=a.2∧a.3=a.3∧a.4=a.4∧a.5=a.5∧a.6=a.6∧n=n∧(∀ (i:Nat),i<n→rE ((f i).sv.den)∧True∧True∧True∧True)∧w.tmod (↑n:Int)=(↑k:Int)∧True)∧∀ (z:Nat),z≤n→((↑z:Int)<(↑n:Int)→(0:Nat)<(1:Nat)∧((↑z:Int)<(↑k:Int)→(0:Int)≤(↑z:Int)∧(↑z:Int)<(↑n:Int)∧(0:Int)≤(↑z:Int)∧(↑z:Int)<(↑n:Int)∧(¬(l8G2 a f k P z)→false=true∧True)∧(¬¬(l8G2 a f k P z)→(0:Int)≤(↑z:Int)∧(↑z:Int)<(↑n:Int)∧(0:Int)≤(↑z:Int)∧(↑z:Int)<(↑n:Int)∧(nB a (stJ a (upd f k P) (↑z:Int).toNat) (upd f k P (↑z:Int).toNat)<nB a (stJ a f (↑z :
Int).toNat) (f (↑z:Int).toNat)→false=true∧True)∧(l8G0 a n f k P z)))∧(¬(↑z:Int)<(↑k:Int)→(0:Int)≤(↑z:Int)∧(↑z:Int)<(↑n:Int)∧(0:Int)≤(↑z:Int)∧(↑z:Int)<(↑n:Int)∧(nB a (stJ a (upd f k P) (↑z:Int).toNat) (upd f k P (↑z:Int).toNat)<nB a (stJ a f (↑z:Int).toNat) (f (↑z:Int).toNat)→false=true∧True)∧(l8G0 a n f k P z)))∧(¬(↑z:Int)<(↑n:Int)→(0:Nat)<(1:Nat)∧(0:Nat)<(1:Nat)∧(0:Nat)<(1:Nat)∧rI ((↑k:Int)+(1:Int))∧(0:Int)≤(0:Int)∧(0:Int)≤(↑k:Int)+(1:Int)∧(↑k:Int)+(1:Int)≤(↑n:Int)∧(∀ (i:Nat),i<((↑k:Int)+(1:Int) - (0:Int)).toNat→True∧True∧True∧True)∧(SV.lst (3:Nat) ((↑k:Int)+(1:Int) - (0:Int)).toNat fun i=>(f (Int.toNat (0:Int)+i)).sv)=yrL ((↑k:Int)+(1:Int) - (0:Int)).toNat (yrF fun i=>(f (Int.toNat (0:Int) +
i)).sv)∧((↑k:Int)+(1:Int) - (0:Int)).toNat<(1000:Nat)∧(¬erA a ((↑k:Int)+(1:Int) - (0:Int)).toNat (yrF fun i=>(f (Int.toNat (0:Int)+i)).sv)=(0:Int)→false=true∧True)∧(¬¬erA a ((↑k:Int)+(1:Int) - (0:Int)).toNat (yrF fun i=>(f (Int.toNat (0:Int)+i)).sv)=(0:Int)→(0:Nat)<(1:Nat)∧rI ((↑k:Int)+(1:Int))∧(0:Int)≤(0:Int)∧(0:Int)≤(↑k:Int)+(1:Int)∧(↑k:Int)+(1:Int)≤(↑n:Int)∧(∀ (i:Nat),i<ruN a ((↑k:Int)+(1:Int) - (0:Int)).toNat (yrF fun i=>(f (Int.toNat (0:Int)+i)).sv)→True∧True∧True∧True∧True∧True∧True)∧(∀ (i:Nat),i<((↑k:Int)+(1:Int) - (0:Int)).toNat→True∧True∧True∧True∧True∧True∧True)∧(SV.lst (6:Nat) (ruN a ((↑k:Int)+(1:Int) - (0:Int)).toNat (yrF fun i=>(f (Int.toNat (0:Int)+i)).sv)) fun i=>(pyJ a (yrF fun i =>
(f (Int.toNat (0:Int)+i)).sv) i).sv)=pyL (ruN a ((↑k:Int)+(1:Int) - (0:Int)).toNat (yrF fun i=>(f (Int.toNat (0:Int)+i)).sv)) (pyF fun i=>(pyJ a (yrF fun i=>(f (Int.toNat (0:Int)+i)).sv) i).sv)∧(SV.lst (6:Nat) ((↑k:Int)+(1:Int) - (0:Int)).toNat fun i=>(pyJ a f (Int.toNat (0:Int)+i)).sv)=pyL ((↑k:Int)+(1:Int) - (0:Int)).toNat (pyF fun i=>(pyJ a f (Int.toNat (0:Int)+i)).sv)∧ruN a ((↑k:Int)+(1:Int) - (0:Int)).toNat (yrF fun i=>(f (Int.toNat (0:Int)+i)).sv)<(1000:Nat)∧((↑k:Int)+(1:Int) - (0:Int)).toNat<(1000:Nat)∧(¬(l8G5 a f k)→false=true∧True)∧(¬¬(l8G5 a f k)→(0:Nat)<(1:Nat)∧(0:Nat)<(1:Nat)∧(0:Nat)<(1:Nat)∧(∀ (i:Nat),i<n→True∧True∧True∧True)∧(SV.lst (3:Nat) n fun i=>(f i).sv)=yrL n f∧n<(1000:Nat)∧(0:Nat)<(1:Nat)∧(0:Int) ≤
(↑k:Int)∧(↑k:Int)<(↑n:Int)∧(0:Nat)<(1:Nat)∧((0:Int)<(↑k:Int)→(0:Nat)<(1:Nat)∧rI ((↑k:Int) - (1:Int))∧(0:Int)≤(↑k:Int) - (1:Int)∧(↑k:Int) - (1:Int)<(↑n:Int)∧rI (duA a (f (↑k:Int).toNat)+arS a (stJ a f ((↑k:Int) - (1:Int)).toNat) (f ((↑k:Int) - (1:Int)).toNat))∧(¬neE a n f (↑k:Int)=(0:Int)→(neE a n f (↑k:Int)=(4:Int)→(neN a n f (↑k:Int)=(0:Int)→(duA a (f (↑k:Int).toNat)+arS a (stJ a f ((↑k:Int) - (1:Int)).toNat) (f ((↑k:Int) - (1:Int)).toNat)=(0:Int)→(0:Nat)<(1:Nat)∧(0:Int)≤(↑k:Int)∧(↑k:Int)<(↑n:Int)∧(pdA a (stJ a f (↑k:Int).toNat) (f (↑k:Int).toNat)=(0:Int)→rE true∧True)∧(¬pdA a (stJ a f (↑k:Int).toNat) (f (↑k:Int).toNat)=(0:Int)→false=true∧True))∧(¬duA a (f (↑k:Int).toNat)+arS a (stJ a f ((↑k:Int) - (1 :
Int)).toNat) (f ((↑k:Int) - (1:Int)).toNat)=(0:Int)→false=true∧True))∧(¬neN a n f (↑k:Int)=(0:Int)→false=true∧True))∧(¬neE a n f (↑k:Int)=(4:Int)→false=true∧True))∧(¬¬neE a n f (↑k:Int)=(0:Int)→(duA a (f (↑k:Int).toNat)+arS a (stJ a f ((↑k:Int) - (1:Int)).toNat) (f ((↑k:Int) - (1:Int)).toNat)=(0:Int)→false=true∧True)∧(¬duA a (f (↑k:Int).toNat)+arS a (stJ a f ((↑k:Int) - (1:Int)).toNat) (f ((↑k:Int) - (1:Int)).toNat)=(0:Int)→((1099511627776:Int)<neN a n f (↑k:Int)→rE true∧True)∧(¬(1099511627776:Int)<neN a n f (↑k:Int)→(neN a n f (↑k:Int)≤(-1099511627776:Int)→rE true∧True)∧(¬neN a n f (↑k:Int)≤(-1099511627776:Int)→(0:Nat)<(1:Nat)∧(∀ (i:Nat),i<n→rE true)∧rE (0:Nat)∧rE (0:Nat)∧(∀ (i:Nat),rE true)∧((0:Nat)+n)*(24:Nat) ≤
(140737488355328:Nat)∧(0:Nat)+n≤(4611686018427387904:Nat)∧(0:Nat)<(1:Nat)∧(0:Int)≤(↑k:Int)∧(↑k:Int)<(↑((0:Nat)+n):Int)∧(2:Nat)+(1:Nat)≤(3:Nat)∧(0:Nat)+(↑k:Int).toNat<(0:Nat)+n∧(∀ (i':Nat),rE true)∧(0:Nat)<(1:Nat)∧(0:Nat)+((0:Nat)+n)≤(0:Nat)+n∧(l8G4 n)∧(SV.lst (3:Nat) ((0:Nat)+n) fun i=>putR (rowsK (Try.prog.cellsOf (47:Nat)) ((0:Nat)+n) (appF (0:Nat) (rowsK (Try.prog.cellsOf (47:Nat)) (0:Nat) fun x=>ofS (Value.agg #[Value.int IntKind.i64 (0:Int),Value.int IntKind.i64 (0:Int),Value.int IntKind.i64 (0:Int)])).f fun i=>(f i).sv)).f ((0:Nat)+(↑k:Int).toNat) (Nat.succ (1:Nat)) (SV.int IntKind.i64 (neN a n f (↑k:Int))) (i+(0:Nat)))=yrL ((0:Nat)+n) (mrY f n ((↑k:Int).toNat) (neN a n f (↑k:Int)))∧(0:Nat)+n<(1000:Nat)∧(erA a ((0 :
Nat)+n) (mrY f n ((↑k:Int).toNat) (neN a n f (↑k:Int)))=(0:Int)→(0:Nat)<(1:Nat)∧rI (neN a n f (↑k:Int) - (1:Int))∧(0:Nat)<(1:Nat)∧(∀ (i:Nat),i<n→rE true)∧rE (0:Nat)∧rE (0:Nat)∧(∀ (i:Nat),rE true)∧((0:Nat)+n)*(24:Nat)≤(140737488355328:Nat)∧(0:Nat)+n≤(4611686018427387904:Nat)∧(0:Nat)<(1:Nat)∧(0:Int)≤(↑k:Int)∧(↑k:Int)<(↑((0:Nat)+n):Int)∧(2:Nat)+(1:Nat)≤(3:Nat)∧(0:Nat)+(↑k:Int).toNat<(0:Nat)+n∧(∀ (i':Nat),rE true)∧(0:Nat)<(1:Nat)∧(0:Nat)+((0:Nat)+n)≤(0:Nat)+n∧(l8G4 n)∧(SV.lst (3:Nat) ((0:Nat)+n) fun i=>putR (rowsK (Try.prog.cellsOf (47:Nat)) ((0:Nat)+n) (appF (0:Nat) (rowsK (Try.prog.cellsOf (47:Nat)) (0:Nat) fun x=>ofS (Value.agg #[Value.int IntKind.i64 (0:Int),Value.int IntKind.i64 (0:Int),Value.int
IntKind.i64 (0:Int)])).f fun i=>(f i).sv)).f ((0:Nat)+(↑k:Int).toNat) (Nat.succ (1:Nat)) (SV.int IntKind.i64 (neN a n f (↑k:Int) - (1:Int))) (i+(0:Nat)))=yrL ((0:Nat)+n) (mrY f n ((↑k:Int).toNat) (neN a n f (↑k:Int) - (1:Int)))∧(0:Nat)+n<(1000:Nat)∧(erA a ((0:Nat)+n) (mrY f n ((↑k:Int).toNat) (neN a n f (↑k:Int) - (1:Int)))=(0:Int)→(0:Nat)<(1:Nat)∧((↑(ruN a ((0:Nat)+n) (mrY f n ((↑k:Int).toNat) (neN a n f (↑k:Int)))):Int)=(↑n:Int)→((↑(ruN a ((0:Nat)+n) (mrY f n ((↑k:Int).toNat) (neN a n f (↑k:Int) - (1:Int)))):Int)=(↑n:Int)→(0:Nat)<(1:Nat)∧(0:Int)≤(↑k:Int)∧(↑k:Int)<(↑(ruN a ((0:Nat)+n) (mrY f n ((↑k:Int).toNat) (neN a n f (↑k:Int)))):Int)∧(pdA a (stJ a (mrY f n ((↑k:Int).toNat) (neN a n f (↑k:Int))) (↑k:Int).toNat) (mrY f n ((↑k:Int).toNat) (neN a
n f (↑k:Int)) (↑k:Int).toNat)=duA a (f (↑k:Int).toNat)+arS a (stJ a f ((↑k:Int) - (1:Int)).toNat) (f ((↑k:Int) - (1:Int)).toNat)→(0:Nat)<(1:Nat)∧(0:Int)≤(↑k:Int)∧(↑k:Int)<(↑(ruN a ((0:Nat)+n) (mrY f n ((↑k:Int).toNat) (neN a n f (↑k:Int)))):Int)∧(arS a (stJ a (mrY f n ((↑k:Int).toNat) (neN a n f (↑k:Int))) (↑k:Int).toNat) (mrY f n ((↑k:Int).toNat) (neN a n f (↑k:Int)) (↑k:Int).toNat)=(0:Int)→(0:Nat)<(1:Nat)∧(0:Int)≤(↑k:Int)∧(↑k:Int)<(↑(ruN a ((0:Nat)+n) (mrY f n ((↑k:Int).toNat) (neN a n f (↑k:Int)))):Int)∧(((stJ a (mrY f n ((↑k:Int).toNat) (neN a n f (↑k:Int))) (↑k:Int).toNat).1+if (↑k:Int).toNat+(0:Nat)=(0:Nat)+(↑k:Int).toNat then neN a n f (↑k:Int) else if (↑k:Int).toNat+(0:Nat)<(0:Nat) then (0:Int) else (f ((↑k:Int).toNat+(0:Nat) - (0 :
Nat))).3) - pdA a (stJ a (mrY f n ((↑k:Int).toNat) (neN a n f (↑k:Int))) (↑k:Int).toNat) (mrY f n ((↑k:Int).toNat) (neN a n f (↑k:Int)) (↑k:Int).toNat) - nB a (stJ a (mrY f n ((↑k:Int).toNat) (neN a n f (↑k:Int))) (↑k:Int).toNat) (mrY f n ((↑k:Int).toNat) (neN a n f (↑k:Int)) (↑k:Int).toNat)=(0:Int)→(0:Nat)<(1:Nat)∧(0:Int)≤(↑k:Int)∧(↑k:Int)<(↑(ruN a ((0:Nat)+n) (mrY f n ((↑k:Int).toNat) (neN a n f (↑k:Int) - (1:Int)))):Int)∧rI (duA a (f (↑k:Int).toNat)+arS a (stJ a f ((↑k:Int) - (1:Int)).toNat) (f ((↑k:Int) - (1:Int)).toNat) - (1:Int))∧(pdA a (stJ a (mrY f n ((↑k:Int).toNat) (neN a n f (↑k:Int) - (1:Int))) (↑k:Int).toNat) (mrY f n ((↑k:Int).toNat) (neN a n f (↑k:Int) - (1:Int)) (↑k:Int).toNat)=duA a (f (↑k:Int).toNat)+arS a (stJ a f ((↑k:Int) - (1:Int)).toNat) (f ((↑k:Int) - (1 :
Int)).toNat) - (1:Int)→rE true∧True)∧(¬pdA a (stJ a (mrY f n ((↑k:Int).toNat) (neN a n f (↑k:Int) - (1:Int))) (↑k:Int).toNat) (mrY f n ((↑k:Int).toNat) (neN a n f (↑k:Int) - (1:Int)) (↑k:Int).toNat)=duA a (f (↑k:Int).toNat)+arS a (stJ a f ((↑k:Int) - (1:Int)).toNat) (f ((↑k:Int) - (1:Int)).toNat) - (1:Int)→false=true∧True))∧(l8G3 a n f k))∧(¬arS a (stJ a (mrY f n ((↑k:Int).toNat) (neN a n f (↑k:Int))) (↑k:Int).toNat) (mrY f n ((↑k:Int).toNat) (neN a n f (↑k:Int)) (↑k:Int).toNat)=(0:Int)→false=true∧True))∧(¬pdA a (stJ a (mrY f n ((↑k:Int).toNat) (neN a n f (↑k:Int))) (↑k:Int).toNat) (mrY f n ((↑k:Int).toNat) (neN a n f (↑k:Int)) (↑k:Int).toNat)=duA a (f (↑k:Int).toNat)+arS a (stJ a f ((↑k:Int) - (1:Int)).toNat) (f ((↑k:Int) - (1:Int)).toNat)→false=true∧True))∧(¬(↑(ruN a ((0:Nat)
+ n) (mrY f n ((↑k:Int).toNat) (neN a n f (↑k:Int) - (1:Int)))):Int)=(↑n:Int)→false=true∧True))∧(¬(↑(ruN a ((0:Nat)+n) (mrY f n ((↑k:Int).toNat) (neN a n f (↑k:Int)))):Int)=(↑n:Int)→false=true∧True))∧(l8G6 a n f k))∧(l8G1 a n f k))))))∧(¬(0:Int)<(↑k:Int)→(¬neE a n f (↑k:Int)=(0:Int)→(neE a n f (↑k:Int)=(4:Int)→(neN a n f (↑k:Int)=(0:Int)→(duA a (f (↑k:Int).toNat)=(0:Int)→(0:Nat)<(1:Nat)∧(0:Int)≤(↑k:Int)∧(↑k:Int)<(↑n:Int)∧(pdA a (stJ a f (↑k:Int).toNat) (f (↑k:Int).toNat)=(0:Int)→rE true∧True)∧(¬pdA a (stJ a f (↑k:Int).toNat) (f (↑k:Int).toNat)=(0:Int)→false=true∧True))∧(¬duA a (f (↑k:Int).toNat)=(0:Int)→false=true∧True))∧(¬neN a n f (↑k:Int)=(0:Int)→false=true∧True))∧(¬neE a n f (↑k:Int)=(4:Int)→false=true ∧
True))∧(¬¬neE a n f (↑k:Int)=(0:Int)→(duA a (f (↑k:Int).toNat)=(0:Int)→false=true∧True)∧(¬duA a (f (↑k:Int).toNat)=(0:Int)→((1099511627776:Int)<neN a n f (↑k:Int)→rE true∧True)∧(¬(1099511627776:Int)<neN a n f (↑k:Int)→(neN a n f (↑k:Int)≤(-1099511627776:Int)→rE true∧True)∧(¬neN a n f (↑k:Int)≤(-1099511627776:Int)→(0:Nat)<(1:Nat)∧(∀ (i:Nat),i<n→rE true)∧rE (0:Nat)∧rE (0:Nat)∧(∀ (i:Nat),rE true)∧((0:Nat)+n)*(24:Nat)≤(140737488355328:Nat)∧(0:Nat)+n≤(4611686018427387904:Nat)∧(0:Nat)<(1:Nat)∧(0:Int)≤(↑k:Int)∧(↑k:Int)<(↑((0:Nat)+n):Int)∧(2:Nat)+(1:Nat)≤(3:Nat)∧(0:Nat)+(↑k:Int).toNat<(0:Nat)+n∧(∀ (i':Nat),rE true)∧(0:Nat)<(1:Nat)∧(0:Nat)+((0:Nat)+n)≤(0:Nat)+n∧(l8G4 n)∧(SV.lst (3:Nat)
((0:Nat)+n) fun i=>putR (rowsK (Try.prog.cellsOf (47:Nat)) ((0:Nat)+n) (appF (0:Nat) (rowsK (Try.prog.cellsOf (47:Nat)) (0:Nat) fun x=>ofS (Value.agg #[Value.int IntKind.i64 (0:Int),Value.int IntKind.i64 (0:Int),Value.int IntKind.i64 (0:Int)])).f fun i=>(f i).sv)).f ((0:Nat)+(↑k:Int).toNat) (Nat.succ (1:Nat)) (SV.int IntKind.i64 (neN a n f (↑k:Int))) (i+(0:Nat)))=yrL ((0:Nat)+n) (mrY f n ((↑k:Int).toNat) (neN a n f (↑k:Int)))∧(0:Nat)+n<(1000:Nat)∧(erA a ((0:Nat)+n) (mrY f n ((↑k:Int).toNat) (neN a n f (↑k:Int)))=(0:Int)→(0:Nat)<(1:Nat)∧rI (neN a n f (↑k:Int) - (1:Int))∧(0:Nat)<(1:Nat)∧(∀ (i:Nat),i<n→rE true)∧rE (0:Nat)∧rE (0:Nat)∧(∀ (i:Nat),rE true)∧((0:Nat)+n)*(24:Nat)≤(140737488355328:Nat)∧(0:Nat)+n≤(4611686018427387904:Nat)∧(0:Nat)<(1
: Nat)∧(0:Int)≤(↑k:Int)∧(↑k:Int)<(↑((0:Nat)+n):Int)∧(2:Nat)+(1:Nat)≤(3:Nat)∧(0:Nat)+(↑k:Int).toNat<(0:Nat)+n∧(∀ (i':Nat),rE true)∧(0:Nat)<(1:Nat)∧(0:Nat)+((0:Nat)+n)≤(0:Nat)+n∧(l8G4 n)∧(SV.lst (3:Nat) ((0:Nat)+n) fun i=>putR (rowsK (Try.prog.cellsOf (47:Nat)) ((0:Nat)+n) (appF (0:Nat) (rowsK (Try.prog.cellsOf (47:Nat)) (0:Nat) fun x=>ofS (Value.agg #[Value.int IntKind.i64 (0:Int),Value.int IntKind.i64 (0:Int),Value.int IntKind.i64 (0:Int)])).f fun i=>(f i).sv)).f ((0:Nat)+(↑k:Int).toNat) (Nat.succ (1:Nat)) (SV.int IntKind.i64 (neN a n f (↑k:Int) - (1:Int))) (i+(0:Nat)))=yrL ((0:Nat)+n) (mrY f n ((↑k:Int).toNat) (neN a n f (↑k:Int) - (1:Int)))∧(0:Nat)+n<(1000:Nat)∧(erA a ((0:Nat)+n) (mrY f n ((↑k:Int).toNat) (neN a n f (↑k:Int) -
(1:Int)))=(0:Int)→(0:Nat)<(1:Nat)∧((↑(ruN a ((0:Nat)+n) (mrY f n ((↑k:Int).toNat) (neN a n f (↑k:Int)))):Int)=(↑n:Int)→((↑(ruN a ((0:Nat)+n) (mrY f n ((↑k:Int).toNat) (neN a n f (↑k:Int) - (1:Int)))):Int)=(↑n:Int)→(0:Nat)<(1:Nat)∧(0:Int)≤(↑k:Int)∧(↑k:Int)<(↑(ruN a ((0:Nat)+n) (mrY f n ((↑k:Int).toNat) (neN a n f (↑k:Int)))):Int)∧(pdA a (stJ a (mrY f n ((↑k:Int).toNat) (neN a n f (↑k:Int))) (↑k:Int).toNat) (mrY f n ((↑k:Int).toNat) (neN a n f (↑k:Int)) (↑k:Int).toNat)=duA a (f (↑k:Int).toNat)→(0:Nat)<(1:Nat)∧(0:Int)≤(↑k:Int)∧(↑k:Int)<(↑(ruN a ((0:Nat)+n) (mrY f n ((↑k:Int).toNat) (neN a n f (↑k:Int)))):Int)∧(arS a (stJ a (mrY f n ((↑k:Int).toNat) (neN a n f (↑k:Int))) (↑k:Int).toNat) (mrY f n ((↑k:Int).toNat) (neN a n f (↑k:Int)) (↑k:Int).toNat)
= (0:Int)→(0:Nat)<(1:Nat)∧(0:Int)≤(↑k:Int)∧(↑k:Int)<(↑(ruN a ((0:Nat)+n) (mrY f n ((↑k:Int).toNat) (neN a n f (↑k:Int)))):Int)∧(((stJ a (mrY f n ((↑k:Int).toNat) (neN a n f (↑k:Int))) (↑k:Int).toNat).1+if (↑k:Int).toNat+(0:Nat)=(0:Nat)+(↑k:Int).toNat then neN a n f (↑k:Int) else if (↑k:Int).toNat+(0:Nat)<(0:Nat) then (0:Int) else (f ((↑k:Int).toNat+(0:Nat) - (0:Nat))).3) - pdA a (stJ a (mrY f n ((↑k:Int).toNat) (neN a n f (↑k:Int))) (↑k:Int).toNat) (mrY f n ((↑k:Int).toNat) (neN a n f (↑k:Int)) (↑k:Int).toNat) - nB a (stJ a (mrY f n ((↑k:Int).toNat) (neN a n f (↑k:Int))) (↑k:Int).toNat) (mrY f n ((↑k:Int).toNat) (neN a n f (↑k:Int)) (↑k:Int).toNat)=(0:Int)→(0:Nat)<(1:Nat)∧(0:Int)≤(↑k:Int)∧(↑k:Int)<(↑(ruN a ((0:Nat)+n) (mrY f n ((↑k:Int).toNat) (neN a n
f (↑k:Int) - (1:Int)))):Int)∧rI (duA a (f (↑k:Int).toNat) - (1:Int))∧(pdA a (stJ a (mrY f n ((↑k:Int).toNat) (neN a n f (↑k:Int) - (1:Int))) (↑k:Int).toNat) (mrY f n ((↑k:Int).toNat) (neN a n f (↑k:Int) - (1:Int)) (↑k:Int).toNat)=duA a (f (↑k:Int).toNat) - (1:Int)→rE true∧True)∧(¬pdA a (stJ a (mrY f n ((↑k:Int).toNat) (neN a n f (↑k:Int) - (1:Int))) (↑k:Int).toNat) (mrY f n ((↑k:Int).toNat) (neN a n f (↑k:Int) - (1:Int)) (↑k:Int).toNat)=duA a (f (↑k:Int).toNat) - (1:Int)→false=true∧True))∧(l8G3 a n f k))∧(¬arS a (stJ a (mrY f n ((↑k:Int).toNat) (neN a n f (↑k:Int))) (↑k:Int).toNat) (mrY f n ((↑k:Int).toNat) (neN a n f (↑k:Int)) (↑k:Int).toNat)=(0:Int)→false=true∧True))∧(¬pdA a (stJ a (mrY f n ((↑k:Int).toNat) (neN a n f (↑k:Int))) (↑k:Int).toNat) (mrY f n ((↑k:Int).toNat) (neN a n f
(↑k:Int)) (↑k:Int).toNat)=duA a (f (↑k:Int).toNat)→false=true∧True))∧(¬(↑(ruN a ((0:Nat)+n) (mrY f n ((↑k:Int).toNat) (neN a n f (↑k:Int) - (1:Int)))):Int)=(↑n:Int)→false=true∧True))∧(¬(↑(ruN a ((0:Nat)+n) (mrY f n ((↑k:Int).toNat) (neN a n f (↑k:Int)))):Int)=(↑n:Int)→false=true∧True))∧(l8G6 a n f k))∧(l8G1 a n f k)))))))))))))∧(¬erA a ((0:Nat)+n) (mrY f n ((w.tmod (↑n:Int)).toNat) (min (1099511627776:Int) ((f (w.tmod (↑n:Int)).toNat).pf+b)))=(0:Int)→false=true∧True)))))):=by kernel_rfl
end Go.Proofs.Ytfobgmecnlehaaa

set_option maxRecDepth 100000
namespace Go.Proofs.Ytfobgmecnlehaaa
open Go Go.Lg
attribute [local irreducible] funS bodyH
theorem mJ_mono {f g:Nat→Int} {m m':Int} (h0:0≤m) (hm:m≤m'):∀ {k:Nat},nnL k f→nnL k g→(∀ i,i<k→g i≤f i)→mJ f m k≤mJ g m' k
 | 0,_,_,_=>hm
 | k+1,hf,hg,h=>by
  have h1:=mJ_mono h0 hm (k:=k) (fun i hi=>hf i (by omega)) (fun i hi=>hg i (by omega)) fun i hi=>h i (by omega)
  have h2:=(mJ_bd (f:=f) h0 (k:=k) fun i hi=>hf i (by omega)).1
  have h3:=h k (by omega)
  show mJ f m k - min (f k) (mJ f m k)≤mJ g m' k - min (g k) (mJ g m' k)
  omega
theorem lJ_mono {f g:Nat→Int} {m m':Int} (h0:0≤m) (hm:m≤m') {k:Nat} (hf:nnL (k+1) f) (hg:nnL (k+1) g) (h:∀ i,i<k+1→g i≤f i):lJ g m' k≤lJ f m k:=by
 have h1:=mJ_mono h0 hm (k:=k) (fun i hi=>hf i (by omega)) (fun i hi=>hg i (by omega)) fun i hi=>h i (by omega)
 have h3:=h k (by omega)
 unfold lJ; omega
theorem mJ_ge {f:Nat→Int} {m:Int}:∀ {k:Nat},m - sumJ f k≤mJ f m k
 | 0=>by show m - 0≤m; omega
 | k+1=>by
  have h1:=mJ_ge (f:=f) (m:=m) (k:=k)
  show m - (sumJ f k+f k)≤mJ f m k - min (f k) (mJ f m k)
  omega
theorem sum_le {f:Nat→Int} {n:Nat} (hf:nnL n f) {i:Nat} (hi:i≤n):sumJ f i≤sumJ f n:=by
 induction n with
 | zero =>
  have:i=0:=by omega
  subst this; omega
 | succ n ih =>
  have h2:=(hf n (by omega)).1
  by_cases e:i≤n
  ·have:=ih (fun j hj=>hf j (by omega)) e
   show _≤sumJ f n+f n
   omega
  ·have:i=n+1:=by omega
   subst this; omega
theorem lJ_zero {f:Nat→Int} {m:Int} {n:Nat} (hf:nnL n f) (hm:sumJ f n≤m) {i:Nat} (hi:i<n):lJ f m i=0:=by
 have h1:=mJ_ge (f:=f) (m:=m) (k:=i)
 have h2:sumJ f i+f i≤sumJ f n:=sum_le hf (i:=i+1) (by omega)
 unfold lJ; omega
theorem sum_mono {f g:Nat→Int}:∀ {n:Nat},(∀ i,i<n→g i≤f i)→sumJ g n≤sumJ f n
 | 0,_=>by simp [sumJ]
 | n+1,h=>by
  have h1:=sum_mono (n:=n) fun i hi=>h i (by omega)
  have h2:=h n (by omega)
  show sumJ g n+g n≤sumJ f n+f n
  omega
theorem sum_zero {f:Nat→Int}:∀ {n:Nat},(∀ i,i<n→f i=0)→sumJ f n=0
 | 0,_=>rfl
 | n+1,h=>by
  have h1:=sum_zero (n:=n) fun i hi=>h i (by omega)
  have h2:=h n (by omega)
  show sumJ f n+f n=0
  omega
structure leL (s s':Lg):Prop where
 ba:s.ba≤s'.ba
 n:s'.n=s.n
 ar:∀ i,i<s.n→arF s' i≤arF s i
theorem le_refl (s:Lg):leL s s:=⟨Int.le_refl _,rfl,fun i _=>Int.le_refl _⟩
theorem nF_mono {a:Act} {j:Nat} {s s':Lg} {y y':Yr} (hs:okL a j s) (hs':okL a j s') (hy:okY y) (hy':okY y') (e1:y'.pr=y.pr) (e2:y'.cp=y.cp) (e3:y.pf≤y'.pf) (h:leL s s') (i:Nat) (hi:i<s.n+1):nF a s' y' i≤nF a s y i:=by
 have hb:=du_bd a hy
 unfold nnB bt at hb
 have ed:duA a y'=duA a y:=by unfold duA; rw [e1,e2]
 have hS:=sum_mono (f:=arF s) (g:=arF s') (n:=s.n) h.ar
 have hq':nnL s.n (arF s'):=by have:=hs'.q; rw [h.n] at this; exact this
 have hS0:=(sum_bd hs.q).1
 have hS1:=(sum_bd hq').1
 have hba:=h.ba
 obtain ⟨p1,p2,p3,p4⟩:=pd_bd hs hy
 obtain ⟨q1,q2,q3,q4⟩:=pd_bd hs' hy'
 have ep:pdA a s y=max (min (duA a y+sumJ (arF s) s.n) (s.ba+y.pf)) 0:=rfl
 have ep':pdA a s' y'=max (min (duA a y+sumJ (arF s') s.n) (s'.ba+y'.pf)) 0:=by unfold pdA; rw [ed,h.n]
 have eo:odA a s y=min (duA a y) (pdA a s y):=rfl
 have eo':odA a s' y'=min (duA a y) (pdA a s' y'):=by unfold odA; rw [ed]
 have key:pdA a s y - odA a s y≤pdA a s' y' - odA a s' y'∨sumJ (arF s') s.n≤pdA a s' y' - odA a s' y':=by omega
 unfold nF
 rw [h.n,ed]
 by_cases hc:i<s.n
 ·rw [if_pos hc,if_pos hc]
  rcases key with k | k
  ·exact lJ_mono (by omega) k (fun q hq=>hs.q q (by omega)) (fun q hq=>hq' q (by omega)) fun q hq=>h.ar q (by omega)
  ·rw [lJ_zero hq' k hc]
   exact (lJ_bd (f:=arF s) (m:=pdA a s y - odA a s y) (by omega) (k:=i) fun q hq=>hs.q q (by omega)).1
 ·rw [if_neg hc,if_neg hc]
  omega
theorem nx_mono {a:Act} {j:Nat} {s s':Lg} {y y':Yr} (hs:okL a j s) (hs':okL a j s') (hy:okY y) (hy':okY y') (e1:y'.pr=y.pr) (e2:y'.cp=y.cp) (e3:y.pf≤y'.pf) (h:leL s s'):leL (nx a s y) (nx a s' y')∧arS a s' y'≤arS a s y∧nB a s y≤nB a s' y':=by
 have hb:=du_bd a hy
 unfold nnB bt at hb
 have ed:duA a y'=duA a y:=by unfold duA; rw [e1,e2]
 have hS:=sum_mono (f:=arF s) (g:=arF s') (n:=s.n) h.ar
 have hq':nnL s.n (arF s'):=by have:=hs'.q; rw [h.n] at this; exact this
 have hS0:=(sum_bd hs.q).1
 have hS1:=(sum_bd hq').1
 have hba:=h.ba
 have ep:pdA a s y=max (min (duA a y+sumJ (arF s) s.n) (s.ba+y.pf)) 0:=rfl
 have ep':pdA a s' y'=max (min (duA a y+sumJ (arF s') s.n) (s'.ba+y'.pf)) 0:=by unfold pdA; rw [ed,h.n]
 have en:nN a s'=nN a s:=by unfold nN; rw [h.n]
 have hB:nB a s y≤nB a s' y':=by unfold nB; omega
 have hA:∀ i,i<nN a s→arF (nx a s' y') i≤arF (nx a s y) i:=fun i hi=>by
  rw [arF_nx,arF_nx,en,h.n]
  exact nF_mono hs hs' hy hy' e1 e2 e3 h _ (by unfold nN at hi ⊢; omega)
 refine ⟨⟨hB,en,hA⟩,?_,hB⟩
 unfold arS
 rw [en]
 exact sum_mono hA
theorem st_congr {a:Act} {f g:Nat→Yr}:∀ {j:Nat},(∀ i,i<j→f i=g i)→stJ a f j=stJ a g j
 | 0,_=>rfl
 | j+1,h=>by
  show nx a (stJ a f j) (f j)=nx a (stJ a g j) (g j)
  rw [st_congr (j:=j) fun i hi=>h i (by omega),h j (by omega)]
theorem upd_ne {f:Nat→Yr} {k:Nat} {P:Int} {i:Nat} (h:i≠k):upd f k P i=f i:=by unfold upd; rw [if_neg h]
theorem upd_k (f:Nat→Yr) (k:Nat) (P:Int):upd f k P k=⟨(f k).pr,(f k).cp,P⟩:=by unfold upd; rw [if_pos rfl]
theorem st_upd {a:Act} {f:Nat→Yr} {k:Nat} {P:Int} {j:Nat} (h:j≤k):stJ a (upd f k P) j=stJ a f j:=st_congr fun i hi=>upd_ne (by omega)
theorem ok_upd {f:Nat→Yr} {n k:Nat} {P:Int} (hf:okYs n f) (hP:bt (-1099511627776) 1099511627776 P):okYs n (upd f k P):=fun i hi=>by
 by_cases h:i=k
 ·subst h
  rw [upd_k]
  exact ⟨(hf i hi).pr,(hf i hi).cp,hP⟩
 ·rw [upd_ne h]; exact hf i hi
theorem er_upd {a:Act} {f:Nat→Yr} {n k:Nat} {P:Int} (h:erA a n f=0) (hP:bt (-1099511627776) 1099511627776 P):erA a n (upd f k P)=0:=by
 obtain ⟨h1,h2,h3⟩:=erA_0 h
 exact erA0 h1 (by omega) (ok_upd h3 hP)
theorem du_upd (a:Act) (f:Nat→Yr) (k:Nat) (P:Int) (i:Nat):duA a (upd f k P i)=duA a (f i):=rfl
theorem st_le {a:Act} {f:Nat→Yr} {n k:Nat} {P:Int} (ha:okA a) (hf:okYs n f) (hP:bt (-1099511627776) 1099511627776 P) (hp:(f k).pf≤P):∀ {j:Nat},j≤n→leL (stJ a f j) (stJ a (upd f k P) j)
 | 0,_=>le_refl _
 | j+1,h=>by
  have h1:=st_le ha hf hP hp (j:=j) (by omega)
  refine (nx_mono (st_ok ha hf (by omega)) (st_ok ha (ok_upd hf hP) (by omega)) (hf j (by omega)) (ok_upd (k:=k) hf hP j (by omega)) rfl rfl ?_ h1).1
  show (f j).pf≤if j=k then P else (f j).pf
  by_cases e:j=k
  ·subst e; rw [if_pos rfl]; exact hp
  ·rw [if_neg e]; omega
theorem py_le {a:Act} {f:Nat→Yr} {n k:Nat} {P:Int} (ha:okA a) (hf:okYs n f) (hP:bt (-1099511627776) 1099511627776 P) (hp:(f k).pf≤P) {j:Nat} (hj:j<n) :
  arS a (stJ a (upd f k P) j) (upd f k P j)≤arS a (stJ a f j) (f j)∧nB a (stJ a f j) (f j)≤nB a (stJ a (upd f k P) j) (upd f k P j):=by
 refine (nx_mono (st_ok ha hf (by omega)) (st_ok ha (ok_upd hf hP) (by omega)) (hf j hj) (ok_upd (k:=k) hf hP j hj) rfl rfl ?_ (st_le ha hf hP hp (by omega))).2
 show (f j).pf≤if j=k then P else (f j).pf
 by_cases e:j=k
 ·subst e; rw [if_pos rfl]; exact hp
 ·rw [if_neg e]; omega
theorem k_le {a:Act} {s:Lg} {y y':Yr} (e1:y'.pr=y.pr) (e2:y'.cp=y.cp) (e3:y.pf≤y'.pf) (hd:0≤duA a y+sumJ (arF s) s.n):pdA a s y≤pdA a s y'∧s.ba+y.pf - pdA a s y - nB a s y≤s.ba+y'.pf - pdA a s y' - nB a s y':=by
 have ed:duA a y'=duA a y:=by unfold duA; rw [e1,e2]
 unfold nB pdA
 rw [ed]; omega
theorem k_all {a:Act} {j:Nat} {s:Lg} {y:Yr} (ha:okA a) (hs:okL a j s) (hy:okY y) (h:s.ba+y.pf=duA a y+sumJ (arF s) s.n):pdA a s y=duA a y+sumJ (arF s) s.n∧arS a s y=0∧nB a s y=0:=by
 have hd:=du_bd a hy
 unfold nnB bt at hd
 have hS:=(sum_bd hs.q).1
 have hm:=ha.mo
 unfold bt at hm
 have e:pdA a s y=duA a y+sumJ (arF s) s.n:=by unfold pdA; omega
 have eo:odA a s y=duA a y:=by unfold odA; omega
 refine ⟨e,?_,by unfold nB; omega⟩
 unfold arS
 refine sum_zero fun i hi=>?_
 rw [arF_nx]
 unfold nF
 by_cases hc:s.n+1 - nN a s+i<s.n
 ·rw [if_pos hc]
  exact lJ_zero hs.q (by omega) hc
 ·rw [if_neg hc]; omega
theorem k_short {a:Act} {j:Nat} {s:Lg} {y:Yr} (hs:okL a j s) (hy:okY y) (h:s.ba+y.pf=duA a y+sumJ (arF s) s.n - 1) (h1:1≤duA a y+sumJ (arF s) s.n):pdA a s y=duA a y+sumJ (arF s) s.n - 1:=by
 unfold pdA; omega
end Go.Proofs.Ytfobgmecnlehaaa

set_option maxRecDepth 100000
namespace Go.Proofs.Ytfobgmecnlehaaa
open Go Go.Lg
attribute [local irreducible] funS bodyH
theorem put_sv (f:Nat→Yr) (n k:Nat) (P:Int) (i:Nat):putR (rowsK (Try.prog.cellsOf 47) n (appF 0 (rowsK (Try.prog.cellsOf 47) 0 fun x=>ofS (Value.agg #[Value.int IntKind.i64 0,Value.int IntKind.i64 0,Value.int IntKind.i64 0])).f fun i=>(f i).sv)).f k (Nat.succ 1) (SV.int IntKind.i64 P) i=(upd f k P i).sv:=by
 show putR (appF 0 (fun x=>ofS (Value.agg #[Value.int IntKind.i64 0,Value.int IntKind.i64 0,Value.int IntKind.i64 0])) fun i=>(f i).sv) k (Nat.succ 1) (SV.int IntKind.i64 P) i=_
 have e:(appF 0 (fun x=>ofS (Value.agg #[Value.int IntKind.i64 0,Value.int IntKind.i64 0,Value.int IntKind.i64 0])) fun i=>(f i).sv)=fun i=>(f i).sv:=by
  funext i
  show SV.agg [SV.int .i64 (if i<0 then 0 else (f i).pr),SV.int .i64 (if i<0 then 0 else (f i).cp),SV.int .i64 (if i<0 then 0 else (f i).pf)]=_
  rw [if_neg (Nat.not_lt_zero i),if_neg (Nat.not_lt_zero i),if_neg (Nat.not_lt_zero i)]; rfl
 rw [e]
 show SV.agg [SV.int .i64 (if i=k then (f i).pr else (f i).pr),SV.int .i64 (if i=k then (f i).cp else (f i).cp),SV.int .i64 (if i=k then P else (f i).pf)]=_
 rw [ite_self,ite_self]; rfl
theorem mr_fold (f:Nat→Yr) (n K:Nat) (p:Int):mrY f n K p=upd f K p:=by
 funext i
 unfold mrY yrF
 rw [Nat.zero_add,Nat.zero_add]
 exact congrArg yOf (put_sv f n K p i)
theorem put_lst (f:Nat→Yr) (n k:Nat) (P:Int):(SV.lst 3 n fun i=>putR (rowsK (Try.prog.cellsOf 47) n (appF 0 (rowsK (Try.prog.cellsOf 47) 0 fun x=>ofS (Value.agg #[Value.int IntKind.i64 0,Value.int IntKind.i64 0,Value.int IntKind.i64 0])).f fun i=>(f i).sv)).f k (Nat.succ 1) (SV.int IntKind.i64 P) i)=yrL n (upd f k P):=by
 unfold yrL
 congr 1
 funext i
 exact put_sv f n k P i
theorem z_fold2 (f:Nat→Yr):(fun i=>f (Int.toNat 0+i))=f:=z_fold f
theorem g4_true (n:Nat):l8G4 n:=by
 unfold l8G4
 simp only [rE,and_true,implies_true]
theorem g2_true {a:Act} {f:Nat→Yr} {k:Nat} {P:Int} {z:Nat} (h:z<k):l8G2 a f k P z:=by
 unfold l8G2
 simp only [rE,Int.toNat_natCast,and_true,true_and,st_upd (Nat.le_of_lt h),upd_ne (Nat.ne_of_lt h),if_neg (Nat.ne_of_lt h)]
theorem g0_true {a:Act} {n:Nat} {f:Nat→Yr} {k:Nat} {P:Int} {z:Nat} (hz:z<n) (hn:n≤16) (hA:arS a (stJ a (upd f k P) z) (upd f k P z)≤arS a (stJ a f z) (f z)):l8G0 a n f k P z:=by
 unfold l8G0
 simp only [rE,rI,Int.toNat_natCast,and_true,true_and,implies_true,Bool.false_eq_true,imp_false,du_upd,not_true_eq_false,not_false_eq_true,true_implies]
 exact fun _=>⟨by omega,by omega,by omega,by omega,by omega,fun _=>⟨by omega,by omega,by omega,by omega,by omega,z+1,by omega,by omega,by omega⟩⟩
theorem g5_true {a:Act} {f:Nat→Yr} {k:Nat} (e3:erA a (k+1) f=0):l8G5 a f k:=by
 unfold l8G5
 have ek:((k:Int)+1).toNat=k+1:=by omega
 have r3:=ruN0 e3
 simp only [Int.sub_zero,z_fold,z_fold2,ek,yrF_fold,yrF2,pyF1,Int.toNat_zero,Nat.zero_add,r3,true_and]
 exact fun i hi=>rfl
theorem l8_main {a:Act} {n:Nat} {f:Nat→Yr} {w b:Int} {k:Nat} (h24:¬ 24<(n:Int)) (he:erA a n f=0) (hK:w.tmod n=k) (hk:k<n) (hw:0≤w∧w≤255) (hb:0≤b∧b≤4294967295):l8G a n f k (min 1099511627776 ((f k).pf+b)) w b:=by
 obtain ⟨h1,h2,h3⟩:=erA_0 he
 have hp:=(h3 k hk).pf
 unfold bt at hp
 rw [l8G_vc]
 have hP:bt (-1099511627776) 1099511627776 (min 1099511627776 ((f k).pf+b)):=by unfold bt; omega
 have hPp:(f k).pf≤min 1099511627776 ((f k).pf+b):=by omega
 have eP:=er_upd (k:=k) he hP
 generalize hPe:min 1099511627776 ((f k).pf+b)=P at *
 have r1:=ruN0 he
 have e3:erA a (k+1) f=0:=erA0 h1 (by omega) fun i hi=>h3 i (by omega)
 have r3:=ruN0 e3
 have ek:((k:Int)+1).toNat=k+1:=by omega
 have r2:=ruN0 eP
 simp only [hK,hPe,mr_fold,r1,r2,he,eP,rI,rE,and_true,true_and,Nat.zero_lt_one,and_self,implies_true,a_fold,yrF_fold,yrF2,yrF1,pyF1,Nat.zero_add,Nat.add_zero,Nat.sub_zero,Int.toNat_natCast,Bool.false_eq_true,imp_false,not_true_eq_false,not_false_eq_true,false_implies,true_implies,if_true,put_lst,g4_true,z_fold2,Int.sub_zero,Int.toNat_zero,ek,r3,e3,Nat.sub_zero,Nat.not_lt_zero,if_false,pyL1]
 have hs:=st_ok h1 h3 (j:=k) (by omega)
 have hd:=du_bd a (h3 k hk)
 unfold nnB bt at hd
 have hS:=(sum_bd hs.q).1
 have hkl:=k_le (a:=a) (s:=stJ a f k) (y:=f k) (y':=upd f k P k) rfl rfl (by rw [upd_k]; exact hPp) (by omega)
 have hpl:=fun z (hz:z<n)=>py_le (k:=k) h1 h3 hP hPp (j:=z) hz
 have euk:(upd f k P k).pf=P:=by rw [upd_k]
 rw [euk] at hkl
 rw [st_upd (Nat.le_refl k)]
 refine fun _ _=>⟨rfl,by omega,by omega,by omega,by omega,by omega,by omega,by omega,by omega,by omega,by omega,by omega,by omega,by omega,by omega,by omega,by omega,by omega,by omega,by omega,by omega,fun _=>⟨by omega,by omega,by omega,by omega,by omega,fun _=>⟨⟨0,by omega,rfl⟩,fun z hz=>⟨fun hl=>⟨fun hzk=>⟨by omega,by omega,by omega,by omega,by simp only [Classical.not_not]; exact g2_true (by omega),fun _=>⟨by omega,by omega,by omega,by omega,by have:=(hpl z (by omega)).2; omega,g0_true (by omega) h2 (hpl z (by omega)).1⟩⟩,fun hzk=>⟨by omega,by omega,by omega,by omega,by have:=(hpl z (by omega)).2; omega,g0_true (by omega) h2 (hpl z (by omega)).1⟩⟩,fun hl=>⟨by omega,by omega,by omega,by omega,rfl,by omega,by omega,by omega,by omega,by omega,by omega,by omega,by simp only [Classical.not_not]; exact g5_true e3,fun _=>?_⟩⟩⟩⟩⟩
 clear hkl hpl euk r2 eP hPp hP hPe r3 e3
 have hcl:=cl_bd h1 h3 h2 hk
 have hbk:bt 0 ((n:Int) - 1) (k:Int):=by unfold bt; omega
 have h4:=@ne_4 a n f k he hbk
 have h0:=@ne_0 a n f k he hbk
 rw [Int.toNat_natCast] at h4 h0
 have ecl:duA a (f k)+sumJ (arF (stJ a f k)) (stJ a f k).n=clA a f k:=rfl
 have hpd0:clA a f k=0→pdA a (stJ a f k) (f k)=0:=fun h=>by unfold pdA; rw [ecl,h]; omega
 have eo1:0<(k:Int)→duA a (f k)+arS a (stJ a f ((k:Int) - 1).toNat) (f ((k:Int) - 1).toNat)=clA a f k:=fun h=>by
  cases k with
  | zero=>omega
  | succ q =>
   have:(((q+1:Nat):Int) - 1).toNat=q:=by omega
   rw [this]; rfl
 have eo0:¬ 0<(k:Int)→duA a (f k)=clA a f k:=fun h=>by
  have:k=0:=by omega
  subst this
  show _=duA a (f 0)+0
  omega
 have QQ:clA a f k≠0→¬ 1099511627776<clA a f k - (stJ a f k).ba→¬ clA a f k - (stJ a f k).ba≤-1099511627776→bt (-1099511627776) 1099511627776 (clA a f k - (stJ a f k).ba)∧bt (-1099511627776) 1099511627776 (clA a f k - (stJ a f k).ba - 1):=fun _ _ _=>by unfold bt; omega
 have hq1:∀ Q,bt (-1099511627776) 1099511627776 Q→erA a n (upd f k Q)=0∧ruN a n (upd f k Q)=n:=fun Q hQ=>⟨er_upd he hQ,ruN0 (er_upd he hQ)⟩
 have hall:∀ Q,bt (-1099511627776) 1099511627776 Q→Q=clA a f k - (stJ a f k).ba→pdA a (stJ a f k) (upd f k Q k)=clA a f k∧arS a (stJ a f k) (upd f k Q k)=0∧nB a (stJ a f k) (upd f k Q k)=0:=fun Q hQ e=>k_all h1 hs (ok_upd (k:=k) h3 hQ k hk) (by rw [upd_k]; show _+Q=clA a f k; omega)
 have hsh:∀ Q,bt (-1099511627776) 1099511627776 Q→clA a f k≠0→Q=clA a f k - (stJ a f k).ba - 1→pdA a (stJ a f k) (upd f k Q k)=clA a f k - 1:=fun Q hQ hc e=>k_short hs (ok_upd (k:=k) h3 hQ k hk) (by rw [upd_k]; show _+Q=clA a f k - 1; omega) (by show 1≤clA a f k; omega)
 refine ⟨rfl,by omega,by omega,by omega,fun hk0=>?_,fun hk0=>?_⟩
 ·rw [eo1 hk0]
  refine ⟨by omega,by omega,by omega,by omega,?_⟩
  by_cases hc:clA a f k=0
  ·obtain ⟨e1,e2⟩:=h4 hc
   rw [e1,e2,hc,hpd0 hc]
   simp
   omega
  ·obtain ⟨e1,e2⟩:=h0 hc
   unfold l8G1 l8G6 l8G3
   rw [e1,e2]
   simp only [hc,true_and,true_implies,not_true_eq_false,not_false_eq_true,false_implies,and_true]
   intro hx hy
   obtain ⟨q1,q2⟩:=QQ hc hx hy
   obtain ⟨a1,a2⟩:=hq1 _ q1
   obtain ⟨b1,b2⟩:=hq1 _ q2
   obtain ⟨c1,c2,c3⟩:=hall _ q1 rfl
   have c4:=hsh _ q2 hc rfl
   simp only [rI,rE,mr_fold,Nat.zero_add,Nat.add_zero,Int.toNat_natCast,a1,a2,b1,b2,st_upd (Nat.le_refl k),c1,c2,c3,c4,and_true,true_and,true_implies,not_true_eq_false,not_false_eq_true,false_implies,implies_true,if_true,Classical.not_not]
   and_intros
   all_goals first
    | omega
    | (intro _; and_intros <;> omega)
    | (intro hz; exfalso; apply hz; omega)
 ·rw [eo0 hk0]
  by_cases hc:clA a f k=0
  ·obtain ⟨e1,e2⟩:=h4 hc
   rw [e1,e2,hc,hpd0 hc]
   simp
   omega
  ·obtain ⟨e1,e2⟩:=h0 hc
   unfold l8G1 l8G6 l8G3
   rw [e1,e2]
   simp only [hc,true_and,true_implies,not_true_eq_false,not_false_eq_true,false_implies,and_true]
   intro hx hy
   obtain ⟨q1,q2⟩:=QQ hc hx hy
   obtain ⟨a1,a2⟩:=hq1 _ q1
   obtain ⟨b1,b2⟩:=hq1 _ q2
   obtain ⟨c1,c2,c3⟩:=hall _ q1 rfl
   have c4:=hsh _ q2 hc rfl
   simp only [rI,rE,mr_fold,Nat.zero_add,Nat.add_zero,Int.toNat_natCast,a1,a2,b1,b2,st_upd (Nat.le_refl k),c1,c2,c3,c4,and_true,true_and,true_implies,not_true_eq_false,not_false_eq_true,false_implies,implies_true,if_true,Classical.not_not]
   and_intros
   all_goals first
    | omega
    | (intro _; and_intros <;> omega)
    | (intro hz; exfalso; apply hz; omega)
theorem l8_true (a:Act) (n:Nat) (f:Nat→Yr) (w b:Int) (hw:0≤w∧w≤255) (hb:0≤b∧b≤4294967295):∃ k P,l8G a n f k P w b:=by
 by_cases h24:24<(n:Int)
 ·refine ⟨0,0,?_⟩
  rw [l8G_vc]
  simp only [h24,rE,and_true,true_implies,not_true_eq_false,false_implies]
  exact Nat.one_pos
 ·by_cases h0:n=0
  ·refine ⟨0,0,?_⟩
   subst h0
   rw [l8G_vc]
   simp only [rE,and_true,true_implies,not_true_eq_false,false_implies,Int.natCast_zero,Int.cast_ofNat_Int,implies_true]
   exact ⟨Nat.one_pos,trivial,fun _=>Nat.one_pos⟩
  ·by_cases he:erA a n f=0
   ·have hk:0≤w.tmod n:=Int.tmod_nonneg _ hw.1
    have hk2:w.tmod n<n:=Int.tmod_lt_of_pos _ (by omega)
    obtain ⟨k,hk3⟩:=Int.eq_ofNat_of_zero_le hk
    exact ⟨k,_,l8_main h24 he hk3 (by omega) hw hb⟩
   ·refine ⟨0,0,?_⟩
    rw [l8G_vc]
    have r:=ruN1 he
    simp only [he,r,a_fold,yrF_fold,rE,and_true,true_and,true_implies,not_true_eq_false,not_false_eq_true,false_implies,implies_true,Int.natCast_zero,Nat.zero_lt_one,Int.cast_ofNat_Int]
    exact fun _ _=>⟨rfl,by omega⟩
end Go.Proofs.Ytfobgmecnlehaaa
