import Derived.Test.YtmjbflifegmmnaaBcBcVBdBeBf
set_option linter.unusedVariables false
set_option linter.unusedSimpArgs false
set_option maxRecDepth 100000
namespace Go.Proofs.Ytmjbflifegmmnaa
open Go Go.Lg
attribute [local irreducible] bodyH
abbrev hInts:Nat:=15
abbrev hSpans:Nat:=16
abbrev hIs:Nat:=22
abbrev hPlant:Nat:=23
abbrev hspan:Nat:=25
abbrev hin:Nat:=37
noncomputable def inG (n a b:Int):Prop:=funH Try.prog (ctrs []) noX (ictrs []) noL noL hin [i6 n,i6 a,i6 b] (.dec (a≤n∧n≤b) inferInstance)
def inC:Ctr:=⟨hin,fun args k=>match args with
 | [.int .i64 n,.int .i64 a,.int .i64 b]=>k (.dec (a≤n∧n≤b) inferInstance)
 | _=>False⟩
noncomputable def rPlG (p:Pl):Prop:=funH Try.prog (ctrs [inC]) noX (ictrs []) (oneL 0 (natH (fun i=>i≤p.f.n∧(2≤p.k∧p.k≤8∧p.f.n≤16)∧∀ j,j<i→okFl p j) (fun i=>p.f.n - i) 1
 (fun i=>mkF 71 [(1,.ptr 0 0 0),(3,i6 i)]) (fun _=>mkX [vr 2 p.sv]) fun _=>none)) noL hPlant [p.sv] (.dec (okP p) (Classical.propDecidable _))
structure isP (p:Pl) (n:Nat) (x:Nat→Int):Prop where
 n:n=p.f.n
 gas:∀ i,i<p.f.n→p.f.lo i≤x i∧x i≤p.f.hi i
 net:∀ v,v<8→netN p.f x v p.f.n=0
structure okG (p:Pl):Prop where
 n:p.f.n≤1000
 fr:∀ i,i<p.f.n→0≤p.f.fr i∧p.f.fr i<8
 to:∀ i,i<p.f.n→0≤p.f.to i∧p.f.to i<8
 lo:∀ i,i<p.f.n→-2147483648≤p.f.lo i∧p.f.lo i≤2147483648
 hi:∀ i,i<p.f.n→-2147483648≤p.f.hi i∧p.f.hi i≤2147483648
noncomputable def isG (p:Pl) (n:Nat) (x:Nat→Int):Prop:=funH Try.prog (ctrs [inC]) noX (ictrs [])
 (twoL 0 (natH (fun i=>i≤n∧n=p.f.n∧∀ j,j<i→p.f.lo j≤x j∧x j≤p.f.hi j) (fun i=>n - i) 2 (fun i=>mkF 76 [(1,liN n x),(2,.ptr 0 0 0),(5,.sl 1 0 8),(6,i6 i)]) (fun i=>mkX [vr 2 p.sv,rw' 1 8 fun v=>i6 (netN p.f x v i)]) fun _=>none) <|
 oneL 2 (natH (fun v=>v≤8∧(n=p.f.n∧∀ j,j<n→p.f.lo j≤x j∧x j≤p.f.hi j)∧∀ u,u<v→netN p.f x u n=0) (fun v=>8 - v) 2 (fun v=>mkF 76 [(5,.sl 1 0 8),(8,i6 v)]) (fun v=>mkX [vr 2 p.sv,rw' 1 8 fun v=>i6 (netN p.f x v n)]) fun _=>none)) noL hIs [p.sv,liN n x] (.dec (isP p n x) (Classical.propDecidable _))
noncomputable def isC:Ctr:=plC hIs fun p r k=>match r with
 | [.lst 1 n g]=>SV.lst 1 n g=liN n (fun i=>prI (g i))∧okG p∧k (.dec (isP p n fun i=>prI (g i)) (Classical.propDecidable _))
 | _=>False
noncomputable def itsG (n n':Nat) (f f':Nat→Int):Prop:=funH Try.prog (ctrs []) noX (ictrs []) (oneL 0 (natH (fun z=>z≤n∧∀ i,i<z→f i=f' i) (fun z=>n - z) 0
 (fun z=>mkF 26 [(0,liN n f),(1,liN n' f'),(5,i6 z)]) (fun _=>mkX []) fun _=>none)) noL hInts [liN n f,liN n' f'] (.dec (n=n'∧∀ i,i<n→f i=f' i) (Classical.propDecidable _))
noncomputable def itsC:Ctr:=⟨hInts,fun args k=>match args with
 | [.lst 1 n f,.lst 1 n' f']=>SV.lst 1 n f=liN n (fun i=>prI (f i))∧SV.lst 1 n' f'=liN n' (fun i=>prI (f' i))∧n≤100000∧k (.dec (n=n'∧∀ i,i<n→prI (f i)=prI (f' i)) (Classical.propDecidable _))
 | _=>False⟩
noncomputable def spsG (n n':Nat) (f g f' g':Nat→Int):Prop:=funH Try.prog (ctrs []) noX (ictrs []) (oneL 0 (natH (fun z=>z≤n∧∀ i,i<z→f i=f' i∧g i=g' i) (fun z=>n - z) 0
 (fun z=>mkF 26 [(0,spN n f g),(1,spN n' f' g'),(5,i6 z)]) (fun _=>mkX []) fun _=>none)) noL hSpans [spN n f g,spN n' f' g'] (.dec (n=n'∧∀ i,i<n→f i=f' i∧g i=g' i) (Classical.propDecidable _))
noncomputable def spsC:Ctr:=⟨hSpans,fun args k=>match args with
 | [.lst 2 n f,.lst 2 n' f']=>SV.lst 2 n f=spN n (fun i=>cel (f i) 0) (fun i=>cel (f i) 1)∧SV.lst 2 n' f'=spN n' (fun i=>cel (f' i) 0) (fun i=>cel (f' i) 1)∧n≤100000∧k (.dec (n=n'∧∀ i,i<n→cel (f i) 0=cel (f' i) 0∧cel (f i) 1=cel (f' i) 1) (Classical.propDecidable _))
 | _=>False⟩
noncomputable def spaG (a b:Int):Prop:=funH Try.prog (ctrs []) noX (ictrs []) noL noL hspan [i6 a,i6 b] (.agg [i6 a,i6 b])
def spaC:Ctr:=⟨hspan,fun args k=>match args with
 | [.int .i64 a,.int .i64 b]=>k (.agg [i6 a,i6 b])
 | _=>False⟩
end Go.Proofs.Ytmjbflifegmmnaa

set_option maxRecDepth 100000
namespace Go.Proofs.Ytmjbflifegmmnaa
open Go Go.Lg
theorem inG_vc (n:Int) (a:Int) (b:Int):inG n a b =
((a≤n→(n≤b↔a≤n∧n≤b)∧True)∧(¬a≤n→(false=true↔a≤n∧n≤b)∧True)):=by kernel_rfl
theorem rPlG_vc (p:Pl):rPlG p =
((0:Nat)<(1:Nat)∧(¬((2:Int)≤p.1∧p.1≤(8:Int))→(false=true↔okP p)∧True)∧(¬¬((2:Int)≤p.1∧p.1≤(8:Int))→(0:Nat)<(1:Nat)∧((16:Int)<(↑p.f.1:Int)→(false=true↔okP p)∧True)∧(¬(16:Int)<(↑p.f.1:Int)→(∃ z,(z≤p.f.1∧((2:Int)≤p.1∧p.1≤(8:Int)∧p.f.1≤(16:Nat))∧∀ (j:Nat),j<z→okFl p j)∧rE (0:Nat)∧rE (0:Nat)∧(0:Int)=(↑z:Int)∧p.1=p.1∧rE p.f.1∧(∀ (i:Nat),i<p.f.1→rE ((p.f.el i).den)∧True∧True∧True∧True∧True)∧True)∧∀ (z:Nat),(z≤p.f.1∧((2:Int)≤p.1∧p.1≤(8:Int)∧p.f.1≤(16:Nat))∧∀ (j:Nat),j<z→okFl p j)→(0:Nat)<(1:Nat)∧((↑z:Int)<(↑p.f.1:Int)→(0:Nat)<(1:Nat)∧(0:Int)≤(↑z:Int)∧(↑z:Int)<(↑p.f.1:Int)∧(0:Nat)<(1:Nat)∧(0:Nat)<(1:Nat)∧rI (p.1 - (1:Int))∧(¬((0:Int)≤p.f.2 (↑z:Int).toNat
∧ p.f.2 (↑z:Int).toNat≤p.1 - (1:Int))→(false=true↔okP p)∧True)∧(¬¬((0:Int)≤p.f.2 (↑z:Int).toNat∧p.f.2 (↑z:Int).toNat≤p.1 - (1:Int))→(0:Nat)<(1:Nat)∧(0:Nat)<(1:Nat)∧rI (p.1 - (1:Int))∧(¬((0:Int)≤p.f.3 (↑z:Int).toNat∧p.f.3 (↑z:Int).toNat≤p.1 - (1:Int))→(false=true↔okP p)∧True)∧(¬¬((0:Int)≤p.f.3 (↑z:Int).toNat∧p.f.3 (↑z:Int).toNat≤p.1 - (1:Int))→(0:Nat)<(1:Nat)∧(0:Nat)<(1:Nat)∧(p.f.2 (↑z:Int).toNat=p.f.3 (↑z:Int).toNat→(false=true↔okP p)∧True)∧(¬p.f.2 (↑z:Int).toNat=p.f.3 (↑z:Int).toNat→(0:Nat)<(1:Nat)∧(p.f.4 (↑z:Int).toNat<(0:Int)→(false=true↔okP p)∧True)∧(¬p.f.4 (↑z:Int).toNat<(0:Int)→(0:Nat)<(1:Nat)∧(0:Nat)<(1:Nat)∧(p.f.5 (↑z:Int).toNat<p.f.4 (↑z:Int).toNat→(false=true↔okP p)∧True)∧(¬p.f.5 (↑z
: Int).toNat<p.f.4 (↑z:Int).toNat→(0:Nat)<(1:Nat)∧((1073741824:Int)<p.f.5 (↑z:Int).toNat→(false=true↔okP p)∧True)∧(¬(1073741824:Int)<p.f.5 (↑z:Int).toNat→rI ((↑z:Int)+(1:Int))∧∃ z_1,(z_1≤p.f.1∧((2:Int)≤p.1∧p.1≤(8:Int)∧p.f.1≤(16:Nat))∧∀ (j:Nat),j<z_1→okFl p j)∧p.f.1 - z_1<p.f.1 - z∧rE (0:Nat)∧rE (0:Nat)∧(↑z:Int)+(1:Int)=(↑z_1:Int)∧p.1=p.1∧rE p.f.1∧(∀ (i:Nat),i<p.f.1→rE ((p.f.el i).den)∧True∧True∧True∧True∧True)∧True)))))))∧(¬(↑z:Int)<(↑p.f.1:Int)→(rE true↔okP p)∧True)))):=by kernel_rfl
theorem isG_vc (p:Pl) (n:Nat) (x:Nat→Int):isG p n x =
((0:Nat)<(1:Nat)∧(¬(↑n:Int)=(↑p.f.1:Int)→(false=true↔isP p n x)∧True)∧(¬¬(↑n:Int)=(↑p.f.1:Int)→(0:Int)≤(8:Int)∧(8:Int)≤(8:Int)∧(8:Int)≤(1048576:Int)∧(8:Int)*(↑(8:Nat):Int)≤(140737488355328:Int)∧(∃ z,(z≤n∧n=p.f.1∧∀ (j:Nat),j<z→p.f.4 j≤x j∧x j≤p.f.5 j)∧n=n∧(∀ (i:Nat),i<n→rE ((i6 (x i)).den)∧True)∧rE (0:Nat)∧rE (0:Nat)∧rE (0:Nat)∧Int.toNat (8:Int)=(8:Nat)∧(0:Int)=(↑z:Int)∧p.1=p.1∧rE p.f.1∧(∀ (i:Nat),i<p.f.1→rE ((p.f.el i).den)∧True∧True∧True∧True∧True)∧rE (8:Nat)∧(∀ (i:Nat),i<(8:Nat)→rE (1:Nat)∧(0:Int)=netN p.f x i z∧True)∧True)∧∀ (z:Nat),(z≤n∧n=p.f.1∧∀ (j:Nat),j<z→p.f.4 j≤x j∧x j≤p.f.5 j)→((↑z:Int)<(↑n:Int)→(0:Nat)<(1:Nat)∧(0:Int)≤(↑z:Int)∧(↑z:Int) <
(↑p.f.1:Int)∧(0:Int)≤(↑z:Int)∧(↑z:Int)<(↑n:Int)∧(0:Nat)<(1:Nat)∧(0:Nat)<(1:Nat)∧(¬(p.f.4 (↑z:Int).toNat≤x (↑z:Int).toNat∧x (↑z:Int).toNat≤p.f.5 (↑z:Int).toNat)→(false=true↔isP p n x)∧True)∧(¬¬(p.f.4 (↑z:Int).toNat≤x (↑z:Int).toNat∧x (↑z:Int).toNat≤p.f.5 (↑z:Int).toNat)→(0:Nat)<(1:Nat)∧(0:Nat)<(1:Nat)∧(0:Int)≤p.f.2 (↑z:Int).toNat∧p.f.2 (↑z:Int).toNat<(↑(8:Nat):Int)∧(0:Nat)+(p.f.2 (↑z:Int).toNat).toNat<(8:Nat)∧(0:Int)≤(↑z:Int)∧(↑z:Int)<(↑n:Int)∧rI (netN p.f x ((0:Nat)+(p.f.2 (↑z:Int).toNat).toNat) z - x (↑z:Int).toNat)∧(0:Int)≤p.f.2 (↑z:Int).toNat∧p.f.2 (↑z:Int).toNat<(↑(8:Nat):Int)∧(0:Nat)+(1:Nat)≤(1:Nat)∧(0:Nat)+(p.f.2 (↑z:Int).toNat).toNat<(8:Nat)∧(∀ (i':Nat),rE true)∧(0:Nat)<(1:Nat)∧(0
: Nat)<(1:Nat)∧(0:Int)≤p.f.3 (↑z:Int).toNat∧p.f.3 (↑z:Int).toNat<(↑(8:Nat):Int)∧(0:Nat)+(p.f.3 (↑z:Int).toNat).toNat<(8:Nat)∧(0:Int)≤(↑z:Int)∧(↑z:Int)<(↑n:Int)∧rI ((if (0:Nat)+(p.f.3 (↑z:Int).toNat).toNat=(0:Nat)+(p.f.2 (↑z:Int).toNat).toNat then netN p.f x ((0:Nat)+(p.f.2 (↑z:Int).toNat).toNat) z - x (↑z:Int).toNat else netN p.f x ((0:Nat)+(p.f.3 (↑z:Int).toNat).toNat) z)+x (↑z:Int).toNat)∧(0:Int)≤p.f.3 (↑z:Int).toNat∧p.f.3 (↑z:Int).toNat<(↑(8:Nat):Int)∧(0:Nat)+(1:Nat)≤(1:Nat)∧(0:Nat)+(p.f.3 (↑z:Int).toNat).toNat<(8:Nat)∧(∀ (i':Nat),rE true)∧rI ((↑z:Int)+(1:Int))∧∃ z_1,(z_1≤n∧n=p.f.1∧∀ (j:Nat),j<z_1→p.f.4 j≤x j∧x j≤p.f.5 j)∧n - z_1<n - z∧n=n∧(∀ (i:Nat),i<n→rE ((i6 (x i)).den)∧True)∧rE (0:Nat)∧rE (0 :
Nat)∧rE (0:Nat)∧rE (8:Nat)∧(↑z:Int)+(1:Int)=(↑z_1:Int)∧p.1=p.1∧rE p.f.1∧(∀ (i:Nat),i<p.f.1→rE ((p.f.el i).den)∧True∧True∧True∧True∧True)∧rE (8:Nat)∧(∀ (i:Nat),i<(8:Nat)→rE (1:Nat)∧(if i=(0:Nat)+(p.f.3 (↑z:Int).toNat).toNat then (if (0:Nat)+(p.f.3 (↑z:Int).toNat).toNat=(0:Nat)+(p.f.2 (↑z:Int).toNat).toNat then netN p.f x ((0:Nat)+(p.f.2 (↑z:Int).toNat).toNat) z - x (↑z:Int).toNat else netN p.f x ((0:Nat)+(p.f.3 (↑z:Int).toNat).toNat) z)+x (↑z:Int).toNat else if i=(0:Nat)+(p.f.2 (↑z:Int).toNat).toNat then netN p.f x ((0:Nat)+(p.f.2 (↑z:Int).toNat).toNat) z - x (↑z:Int).toNat else netN p.f x i z)=netN p.f x i z_1∧True)∧True))∧(¬(↑z:Int)<(↑n:Int)→(∃ z_1,(z_1≤(8:Nat)∧(n=p.f.1∧∀ (j:Nat),j<n→p.f.4 j≤x j∧x j≤p.f.5 j)∧∀ (u:Nat),u <
z_1→netN p.f x u n=(0:Int))∧rE (0:Nat)∧rE (8:Nat)∧(0:Int)=(↑z_1:Int)∧p.1=p.1∧rE p.f.1∧(∀ (i:Nat),i<p.f.1→rE ((p.f.el i).den)∧True∧True∧True∧True∧True)∧rE (8:Nat)∧(∀ (i:Nat),i<(8:Nat)→rE (1:Nat)∧netN p.f x i z=netN p.f x i n∧True)∧True)∧∀ (z:Nat),(z≤(8:Nat)∧(n=p.f.1∧∀ (j:Nat),j<n→p.f.4 j≤x j∧x j≤p.f.5 j)∧∀ (u:Nat),u<z→netN p.f x u n=(0:Int))→((↑z:Int)<(8:Int)→(0:Int)≤(↑z:Int)∧(↑z:Int)<(↑(8:Nat):Int)∧(0:Nat)+(↑z:Int).toNat<(8:Nat)∧(¬netN p.f x ((0:Nat)+(↑z:Int).toNat) n=(0:Int)→(false=true↔isP p n x)∧True)∧(¬¬netN p.f x ((0:Nat)+(↑z:Int).toNat) n=(0:Int)→rI ((↑z:Int)+(1:Int))∧∃ z_1,(z_1≤(8:Nat)∧(n=p.f.1∧∀ (j:Nat),j<n→p.f.4 j≤x j∧x j≤p.f.5 j)∧∀ (u:Nat),u<z_1→netN p.f
x u n=(0:Int))∧(8:Nat) - z_1<(8:Nat) - z∧rE (0:Nat)∧rE (8:Nat)∧(↑z:Int)+(1:Int)=(↑z_1:Int)∧p.1=p.1∧rE p.f.1∧(∀ (i:Nat),i<p.f.1→rE ((p.f.el i).den)∧True∧True∧True∧True∧True)∧rE (8:Nat)∧(∀ (i:Nat),i<(8:Nat)→rE (1:Nat)∧rE (netN p.f x i n)∧True)∧True))∧(¬(↑z:Int)<(8:Int)→(rE true↔isP p n x)∧True)))):=by kernel_rfl
theorem itsG_vc (n:Nat) (n':Nat) (f:Nat→Int) (f':Nat→Int):itsG n n' f f' =
((¬(↑n:Int)=(↑n':Int)→(false=true↔n=n'∧∀ (i:Nat),i<n→f i=f' i)∧True)∧(¬¬(↑n:Int)=(↑n':Int)→(∃ z,(z≤n∧∀ (i:Nat),i<z→f i=f' i)∧n=n∧(∀ (i:Nat),i<n→rE ((i6 (f i)).den)∧True)∧n'=n'∧(∀ (i:Nat),i<n'→rE ((i6 (f' i)).den)∧True)∧(0:Int)=(↑z:Int)∧True)∧∀ (z:Nat),(z≤n∧∀ (i:Nat),i<z→f i=f' i)→((↑z:Int)<(↑n:Int)→(0:Int)≤(↑z:Int)∧(↑z:Int)<(↑n:Int)∧(0:Int)≤(↑z:Int)∧(↑z:Int)<(↑n':Int)∧(¬f (↑z:Int).toNat=f' (↑z:Int).toNat→(false=true↔n=n'∧∀ (i:Nat),i<n→f i=f' i)∧True)∧(¬¬f (↑z:Int).toNat=f' (↑z:Int).toNat→rI ((↑z:Int)+(1:Int))∧∃ z_1,(z_1≤n∧∀ (i:Nat),i<z_1→f i=f' i)∧n - z_1<n - z∧n=n∧(∀ (i:Nat),i<n→rE ((i6 (f i)).den)∧True)∧n'=n'∧(∀ (i:Nat),i<n'→rE ((i6 (f' i)).den) ∧
True)∧(↑z:Int)+(1:Int)=(↑z_1:Int)∧True))∧(¬(↑z:Int)<(↑n:Int)→(rE true↔n=n'∧∀ (i:Nat),i<n→f i=f' i)∧True))):=by kernel_rfl
theorem spsG_vc (n:Nat) (n':Nat) (f:Nat→Int) (g:Nat→Int) (f':Nat→Int) (g':Nat→Int):spsG n n' f g f' g' =
((¬(↑n:Int)=(↑n':Int)→(false=true↔n=n'∧∀ (i:Nat),i<n→f i=f' i∧g i=g' i)∧True)∧(¬¬(↑n:Int)=(↑n':Int)→(∃ z,(z≤n∧∀ (i:Nat),i<z→f i=f' i∧g i=g' i)∧n=n∧(∀ (i:Nat),i<n→rE ((SV.agg [i6 (f i),i6 (g i)]).den)∧True∧True∧True)∧n'=n'∧(∀ (i:Nat),i<n'→rE ((SV.agg [i6 (f' i),i6 (g' i)]).den)∧True∧True∧True)∧(0:Int)=(↑z:Int)∧True)∧∀ (z:Nat),(z≤n∧∀ (i:Nat),i<z→f i=f' i∧g i=g' i)→((↑z:Int)<(↑n:Int)→(0:Int)≤(↑z:Int)∧(↑z:Int)<(↑n:Int)∧(0:Int)≤(↑z:Int)∧(↑z:Int)<(↑n':Int)∧(¬(f (↑z:Int).toNat=f' (↑z:Int).toNat∧g (↑z:Int).toNat=g' (↑z:Int).toNat)→(false=true↔n=n'∧∀ (i:Nat),i<n→f i=f' i∧g i=g' i)∧True)∧(¬¬(f (↑z:Int).toNat=f' (↑z:Int).toNat∧g (↑z:Int).toNat=g' (↑z:Int).toNat)→rI ((↑z :
Int)+(1:Int))∧∃ z_1,(z_1≤n∧∀ (i:Nat),i<z_1→f i=f' i∧g i=g' i)∧n - z_1<n - z∧n=n∧(∀ (i:Nat),i<n→rE ((SV.agg [i6 (f i),i6 (g i)]).den)∧True∧True∧True)∧n'=n'∧(∀ (i:Nat),i<n'→rE ((SV.agg [i6 (f' i),i6 (g' i)]).den)∧True∧True∧True)∧(↑z:Int)+(1:Int)=(↑z_1:Int)∧True))∧(¬(↑z:Int)<(↑n:Int)→(rE true↔n=n'∧∀ (i:Nat),i<n→f i=f' i∧g i=g' i)∧True))):=by kernel_rfl
theorem spaG_vc (a:Int) (b:Int):spaG a b =
((0:Nat)<(1:Nat)∧a=a∧b=b∧True):=by kernel_rfl
end Go.Proofs.Ytmjbflifegmmnaa

set_option maxRecDepth 100000
namespace Go.Proofs.Ytmjbflifegmmnaa
open Go Go.Lg
attribute [local irreducible] funS bodyH
theorem in_true (n a b:Int):inG n a b:=by
 rw [inG_vc]
 simp only [and_true,true_and,Bool.false_eq_true]
 exact ⟨fun h=>⟨fun x=>⟨h,x⟩,fun x=>x.2⟩,fun h=>⟨False.elim,fun x=>h x.1⟩⟩
theorem spa_true (a b:Int):spaG a b:=by
 rw [spaG_vc]
 simp only [rE,and_true,true_and,Nat.zero_lt_one]
theorem rPl_true (p:Pl):rPlG p:=by
 rw [rPlG_vc]
 simp only [rI,rE,tt3,tt4,tt5,tt13,tt14,and_true,true_and,Nat.zero_lt_one,and_self,implies_true,Int.toNat_natCast,Bool.false_eq_true,false_iff,Classical.not_not]
 refine ⟨fun h o=>by have:=o.k; omega,fun h=>⟨fun h o=>by have:=o.n; omega,fun h=>⟨⟨0,⟨by omega,⟨by omega,by omega,by omega⟩,fun j hj=>by omega⟩,rfl⟩,fun z hz=>?_⟩⟩⟩
 obtain ⟨hz,hk,hj⟩:=hz
 refine ⟨fun hl=>⟨by omega,by omega,by omega,fun h o=>?_,fun h1=>⟨by omega,fun h o=>?_,fun h2=>⟨fun h o=>(okFl_of o (by omega)).ne h,fun h3=>⟨fun h o=>?_,fun h4=>⟨fun h o=>?_,fun h5=>⟨fun h o=>?_,fun h6=>⟨by omega,z+1,⟨by omega,hk,fun j hj'=>?_⟩,by omega,by omega⟩⟩⟩⟩⟩⟩⟩,fun hl=>?_⟩
 ·have:=(okFl_of o (i:=z) (by omega)).fr; omega
 ·have:=(okFl_of o (i:=z) (by omega)).to; omega
 ·have:=(okFl_of o (i:=z) (by omega)).gas; omega
 ·have:=(okFl_of o (i:=z) (by omega)).gas; omega
 ·have:=(okFl_of o (i:=z) (by omega)).gas; omega
 ·by_cases e:j=z
  ·subst e
   exact ⟨by omega,by omega,h3,by omega⟩
  ·exact hj j (by omega)
 ·simp only [true_iff]
  exact ⟨by omega,by omega,fun i hi=>(hj i (by omega)).fr,fun i hi=>(hj i (by omega)).to,fun i hi=>(hj i (by omega)).ne,fun i hi=>(hj i (by omega)).gas⟩
theorem net_le {f:Fl} {x:Nat→Int} {m:Nat} (h:∀ i,i<m→-2147483648≤x i∧x i≤2147483648) (v:Nat):-4294967296*(m:Int)≤netN f x v m∧netN f x v m≤4294967296*(m:Int):=by
 have h1:=sm_le (p:=fun i=>decide (f.to i=v)) h m (Nat.le_refl _)
 have h2:=sm_le (p:=fun i=>decide (f.fr i=v)) h m (Nat.le_refl _)
 unfold netN
 omega
theorem is_true {p:Pl} {n:Nat} {x:Nat→Int} (hp:okG p):isG p n x:=by
 rw [isG_vc]
 simp only [rI,rE,tt3,tt4,tt5,tt13,tt14,and_true,true_and,Nat.zero_lt_one,and_self,implies_true,Int.toNat_natCast,Nat.zero_add,Nat.add_zero,Nat.one_mul,Nat.mul_one,Classical.not_not,Bool.false_eq_true,false_iff]
 have hn:=hp.n
 refine ⟨fun h o=>h (by rw [o.n]),fun h=>⟨by omega,by omega,by omega,by decide,⟨0,⟨by omega,by omega,fun j hj=>by omega⟩,rfl,rfl,fun i _=>by simp [netN,sm]⟩,fun z hz=>?_⟩⟩
 obtain ⟨hz,en,hg⟩:=hz
 refine ⟨fun hl=>?_,fun hl=>?_⟩
 ·have hz':z<p.f.n:=by omega
  have q1:=hp.fr z hz'
  have q2:=hp.to z hz'
  have q3:=hp.lo z hz'
  have q4:=hp.hi z hz'
  have B:=net_le (f:=p.f) (x:=x) (m:=z) fun i hi=>by
   have:=hg i hi
   have:=hp.lo i (by omega)
   have:=hp.hi i (by omega)
   omega
  have B1:=B (p.f.fr z).toNat
  have B2:=B (p.f.to z).toNat
  refine ⟨by omega,by omega,by omega,by omega,fun h o=>h (o.gas z hz'),fun h=>?_⟩
  refine ⟨by omega,by omega,by omega,by omega,by omega,by omega,by omega,by omega,by omega,by omega,by omega,by omega,by omega,by omega,by omega,?_,by omega,by omega,by omega,by omega,by omega,z+1,⟨by omega,en,fun j hj=>?_⟩,by omega,by omega,fun i hi=>?_⟩
  ·split <;> omega
  ·by_cases e:j=z
   ·subst e; exact h
   ·exact hg j (by omega)
  ·rw [net_s]
   have a:(p.f.to z=(i:Int))↔i=(p.f.to z).toNat:=by omega
   have b:(p.f.fr z=(i:Int))↔i=(p.f.fr z).toNat:=by omega
   simp only [a,b]
   by_cases e1:i=(p.f.to z).toNat <;> by_cases e2:i=(p.f.fr z).toNat
   ·have e3:(p.f.to z).toNat=(p.f.fr z).toNat:=by omega
    rw [if_pos e1,if_pos e3,if_pos e1,if_pos e2,e2]; omega
   ·have e3:¬ (p.f.to z).toNat=(p.f.fr z).toNat:=by omega
    rw [if_pos e1,if_neg e3,if_pos e1,if_neg e2,e1]; omega
   ·rw [if_neg e1,if_pos e2,if_neg e1,if_pos e2,e2]; omega
   ·rw [if_neg e1,if_neg e2,if_neg e1,if_neg e2]; omega
 ·have ez:z=n:=by omega
  subst ez
  refine ⟨⟨0,⟨by omega,⟨en,hg⟩,fun u hu=>by omega⟩,rfl,fun i _=>rfl⟩,fun v hv=>?_⟩
  obtain ⟨hv,_,hu⟩:=hv
  refine ⟨fun hl=>⟨by omega,by omega,by omega,fun h o=>h ?_,fun h=>⟨by omega,v+1,⟨by omega,⟨en,hg⟩,fun u hu'=>?_⟩,by omega,by omega⟩⟩,fun hl=>?_⟩
  ·rw [en]; exact o.net v (by omega)
  ·by_cases e:u=v
   ·subst e; exact h
   ·exact hu u (by omega)
  ·simp only [true_iff]
   exact ⟨en,fun i hi=>hg i (by omega),fun u hu'=>by rw [← en]; exact hu u (by omega)⟩
theorem its_true {n n':Nat} {f f':Nat→Int} (hn:n≤100000):itsG n n' f f':=by
 rw [itsG_vc]
 simp only [rI,rE,tt3,tt4,tt5,tt13,tt14,and_true,true_and,Nat.zero_lt_one,and_self,implies_true,Int.toNat_natCast,Nat.zero_add,Nat.add_zero,Nat.one_mul,Nat.mul_one,Classical.not_not,Bool.false_eq_true,false_iff]
 refine ⟨fun h o=>h (by rw [o.1]),fun h=>⟨⟨0,⟨by omega,fun i hi=>by omega⟩,rfl⟩,fun z hz=>?_⟩⟩
 obtain ⟨hz,hg⟩:=hz
 refine ⟨fun hl=>⟨by omega,by omega,by omega,by omega,fun h o=>h (o.2 z (by omega)),fun h=>⟨by omega,z+1,⟨by omega,fun i hi=>?_⟩,by omega,by omega⟩⟩,fun hl=>?_⟩
 ·by_cases e:i=z
  ·subst e; exact h
  ·exact hg i (by omega)
 ·simp only [true_iff]
  exact ⟨by omega,fun i hi=>hg i (by omega)⟩
theorem sps_true {n n':Nat} {f g f' g':Nat→Int} (hn:n≤100000):spsG n n' f g f' g':=by
 rw [spsG_vc]
 simp only [rI,rE,tt3,tt4,tt5,tt13,tt14,and_true,true_and,Nat.zero_lt_one,and_self,implies_true,Int.toNat_natCast,Nat.zero_add,Nat.add_zero,Nat.one_mul,Nat.mul_one,Classical.not_not,Bool.false_eq_true,false_iff]
 refine ⟨fun h o=>h (by rw [o.1]),fun h=>⟨⟨0,⟨by omega,fun i hi=>by omega⟩,rfl⟩,fun z hz=>?_⟩⟩
 obtain ⟨hz,hg⟩:=hz
 refine ⟨fun hl=>⟨by omega,by omega,by omega,by omega,fun h o=>h (o.2 z (by omega)),fun h=>⟨by omega,z+1,⟨by omega,fun i hi=>?_⟩,by omega,by omega⟩⟩,fun hl=>?_⟩
 ·by_cases e:i=z
  ·subst e; exact h
  ·exact hg i (by omega)
 ·simp only [true_iff]
  exact ⟨by omega,fun i hi=>hg i (by omega)⟩
end Go.Proofs.Ytmjbflifegmmnaa
