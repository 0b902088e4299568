import Derived.Test.YtfiaadlgfjokjaaUdTaTaVTbTcTdTdVTeVTeTfTgTgVTh
import Derived.Test.YtfiaadlgfjokjaaUeUeVUfTjTkTl
import Derived.Test.YtfiaadlgfjokjaaUgUhUiUjUl
set_option linter.unusedVariables false
set_option linter.unusedSimpArgs false
namespace Go.Proofs.Ytfiaadlgfjokjaa
open Go Go.Lg
attribute [local irreducible] bodyH bodyZ funS
def updJ (T:Nat→Int) (c:Nat) (v:Int):Nat→Int:=fun i=>if i=c then v else T i
def smR (D:(Nat→Int)→Prop) (ct:Nat→Int) (n:Nat):Nat→(Nat→Int)→Int→Prop
 | 0,T,o=>o=0∧D T
 | r+1,T,o=>∃ m:Nat,(m:Int)≤min o (min (ct (n - (r+1))) (T (n - (r+1))))∧smR D ct n r (updJ T (n - (r+1)) (T (n - (r+1)) - m)) (o - m)
def dvR (ct:Nat→Nat→Int) (g:Nat→Int) (n:Nat):Nat→Nat→(Nat→Int)→Prop
 | 0,_,T=>∀ i,i<n→T i=0
 | r+1,k,T=>smR (dvR ct g n r (k+1)) (ct k) n n T (g k)
noncomputable def ctQ (Y:Yd) (q i:Nat):Int:=ctF Y.m q Y.m.n i
def rg (z:Int):Prop:=-9223372036854775808≤z∧z≤9223372036854775807
structure dvP (M:Nat) (Y:Yd) (P:Tn) (k:Nat) (T:Tn):Prop where
 hc:okCl Y.c
 hm:okMs Y.c.n Y.m
 hn:T.n=Y.c.n
 hK:P.n≤1000
 kl:k≤P.n
 hg:∀ i,i<P.n→rg (P.f i)
 ht:∀ i,i<T.n→rg (T.f i)
 hu:(P.n - k)*(T.n+2)<M
structure smP (M:Nat) (Y:Yd) (P:Tn) (k:Nat) (T C:Tn) (c:Nat) (o:Int):Prop where
 hc:okCl Y.c
 hm:okMs Y.c.n Y.m
 hn:T.n=Y.c.n
 hx:C.n=T.n
 hK:P.n≤1000
 kl:k<P.n
 hj:c≤T.n
 hg:∀ i,i<P.n→rg (P.f i)
 ht:∀ i,i<T.n→rg (T.f i)
 hy:∀ i,i<T.n→C.f i≤1099511627776
 ho:rg o
 hu:(P.n - k)*(T.n+2)<M+1+c
noncomputable def dvS (Y:Yd) (P:Tn) (k:Nat) (T:Tn):SV:=.dec (dvR (ctQ Y) P.f T.n (P.n - k) k T.f) (Classical.propDecidable _)
noncomputable def smS (Y:Yd) (P:Tn) (k:Nat) (T C:Tn) (c:Nat) (o:Int):SV:=.dec (smR (dvR (ctQ Y) P.f T.n (P.n - (k+1)) (k+1)) C.f T.n (T.n - c) T.f o) (Classical.propDecidable _)
noncomputable def dvC (M:Nat):Ctr:=⟨48,fun args k=>match args with
 | [.agg [.lst 8 n f,.lst 3 m g],.lst 1 K p,.int .i64 z,.lst 1 x w]=>SV.lst 8 n f=(clOf n f).sv∧SV.lst 3 m g=(msOf m g).sv∧SV.lst 1 K p=(tnOf K p).sv∧SV.lst 1 x w=(tnOf x w).sv∧(0≤z∧dvP M ⟨clOf n f,msOf m g⟩ (tnOf K p) z.toNat (tnOf x w))∧k (dvS ⟨clOf n f,msOf m g⟩ (tnOf K p) z.toNat (tnOf x w))
 | _=>False⟩
noncomputable def smC' (M:Nat):Ctr:=⟨67,fun args k=>match args with
 | [.agg [.lst 8 n f,.lst 3 m g],.lst 1 K p,.int .i64 z,.lst 1 x w,.lst 1 b h,.int .i64 c,.int .i64 o]=>SV.lst 8 n f=(clOf n f).sv∧SV.lst 3 m g=(msOf m g).sv∧SV.lst 1 K p=(tnOf K p).sv∧SV.lst 1 x w=(tnOf x w).sv∧SV.lst 1 b h=(tnOf b h).sv∧(0≤z∧0≤c∧smP M ⟨clOf n f,msOf m g⟩ (tnOf K p) z.toNat (tnOf x w) (tnOf b h) c.toNat o)∧k (smS ⟨clOf n f,msOf m g⟩ (tnOf K p) z.toNat (tnOf x w) (tnOf b h) c.toNat o)
 | _=>False⟩
noncomputable def dvG (M:Nat) (Y:Yd) (P:Tn) (k:Nat) (T:Tn):Prop:=funH Try.prog (ctrs [c8C,smC' M]) noX (ictrs [])
 (oneL 0 (natH (fun j=>j≤T.n∧∀ i,i<j→T.f i=0) (fun j=>T.n - j) 1 (fun j=>mkF 40 [(3,T.sv),(9,i6 j)]) (fun _=>mkX [vr 2 Y.sv]) fun _=>none)) noL 48 [Y.sv,P.sv,i6 k,T.sv] (dvS Y P k T)
structure smI' (Y:Yd) (P:Tn) (k:Nat) (T C:Tn) (c:Nat) (o:Int) (j:Nat):Prop where
 l:c<T.n
 h:∀ i:Nat,i<j→¬ smR (dvR (ctQ Y) P.f T.n (P.n - (k+1)) (k+1)) C.f T.n (T.n - (c+1)) (updJ T.f c (T.f c - i)) (o - i)
noncomputable def smG' (M:Nat) (Y:Yd) (P:Tn) (k:Nat) (T C:Tn) (c:Nat) (o:Int):Prop:=funH Try.prog (ctrs [dvC M,smC' M]) noX (ictrs [])
 (oneL 0 (natH (smI' Y P k T C c o) (fun j=>(C.f c+1 - j).toNat) 1 (fun j=>mkF 69 [(1,P.sv),(2,i6 k),(3,T.sv),(4,C.sv),(5,i6 c),(6,i6 o),(7,.ptr 0 0 0),(15,i6 j)]) (fun _=>mkX [vr 2 Y.sv]) fun _=>none)) noL 67 [Y.sv,P.sv,i6 k,T.sv,C.sv,i6 c,i6 o] (smS Y P k T C c o)
open Classical in
noncomputable def rcE (Y:Yd) (a:Int) (T:Tn):Int:=if stE Y=0 then (if (0≤a∧a≤(dn Y.m Y.m.n:Int) - 1)∧T.n=Y.c.n then 0 else 2) else stE Y
structure rcP (Y:Yd) (a:Int) (T:Tn):Prop where
 e:rcE Y a T=0
 d:dvR (ctQ Y) (fun q=>oJ Y a.toNat q) T.n (lnJ Y.m) 0 T.f
noncomputable def rcG (Y:Yd) (a:Int) (T:Tn):Prop:=funH Try.prog (ctrsF [stC] (ctrs [inC,dvC 1000])) noX (ictrs []) noL noL 22 [Y.sv,i6 a,T.sv] (.tup [.dec (rcP Y a T) (Classical.propDecidable _),i6 (rcE Y a T)])
noncomputable def rcC:Ctr:=⟨22,fun args k=>match args with
 | [.agg [.lst 8 n f,.lst 3 m g],.int .i64 a,.lst 1 x y]=>SV.lst 8 n f=(clOf n f).sv∧SV.lst 3 m g=(msOf m g).sv∧SV.lst 1 x y=(tnOf x y).sv∧((n≤1000∧m≤1000)∧∀ i,i<x→rg ((tnOf x y).f i))∧k (.tup [.dec (rcP ⟨clOf n f,msOf m g⟩ a (tnOf x y)) (Classical.propDecidable _),i6 (rcE ⟨clOf n f,msOf m g⟩ a (tnOf x y))])
 | _=>False⟩
noncomputable def nxF (T:Tn) (c:Nat) (z:Int):Nat→SV:=fun i=>putR (rowsK (Try.prog.cellsOf (3:Nat)) ((0:Nat)+T.n) (appF (0:Nat) (rowsK (Try.prog.cellsOf (3:Nat)) (0:Nat) fun x=>ofS (Value.int IntKind.i64 (0:Int))).f fun i=>i6 (T.f i))).f ((0:Nat)+(↑c:Int).toNat) (0:Nat) (SV.int IntKind.i64 (T.f (↑c:Int).toNat - z)) (i+(0:Nat))
noncomputable def nxT (T:Tn) (c:Nat) (z:Int):Tn:=tnOf (0+T.n) (nxF T c z)
end Go.Proofs.Ytfiaadlgfjokjaa

set_option maxRecDepth 100000
namespace Go.Proofs.Ytfiaadlgfjokjaa
open Go Go.Lg
theorem dvG_vc (M:Nat) (Y:Yd) (P:Tn) (k:Nat) (T:Tn):dvG M Y P k T=(((↑k:Int)=(↑P.1:Int)→(∃ (z:Nat),(z≤T.1∧∀ (i:Nat),i<z→T.2 i=(0:Int))∧T.1=T.1∧(∀ (i:Nat),i<T.1→rE ((i6 (T.f i)).den)∧True)∧(0:Int)=(↑z:Int)∧rE Y.c.1∧(∀ (i:Nat),i<Y.c.1→rE ((Y.c.f i).sv.den)∧True∧True∧True∧True∧True∧True∧True∧True∧True)∧rE Y.m.1∧(∀ (i:Nat),i<Y.m.1→rE ((Y.m.f i).sv.den)∧True∧True∧True∧True)∧True)∧∀ (z:Nat),(z≤T.1∧∀ (i:Nat),i<z→T.2 i=(0:Int))→((↑z:Int)<(↑T.1:Int)→(0:Int)≤(↑z:Int)∧(↑z:Int)<(↑T.1:Int)∧(¬T.2 (↑z:Int).toNat=(0:Int)→(false=true↔dvR (ctQ Y) P.f T.n (P.n - k) k T.f)∧True)∧(¬¬T.2 (↑z:Int).toNat=(0:Int)→rI ((↑z:Int)+(1:Int))∧∃ (z_1:Nat),(z_1≤T.1∧∀ (i:Nat),i<z_1→T.2 i=(0:Int))∧T.1 - z_1<T.1 - z∧T.1=T.1∧(∀ (i:Nat),i<T.1→rE ((i6 (T.f i)).den)∧True)∧(↑z:Int)+(1:Int)=(↑z_1:Int)∧rE Y.c.1∧(∀ (i:Nat),i<Y.c.1→rE ((Y.c.f i).sv.den)∧True∧True∧True∧True∧True∧True∧True∧True∧True)∧rE Y.m.1∧(∀ (i:Nat),i<Y.m.1→rE ((Y.m.f i).sv.den)∧True∧True∧True∧True)∧True))∧(¬(↑z:Int)<(↑T.1:Int)→(rE true↔dvR (ctQ Y) P.f T.n (P.n - k) k T.f)∧True))∧(¬(↑k:Int)=(↑P.1:Int)→(0:Nat)<(1:Nat)∧(0:Nat)<(1:Nat)∧(0:Nat)<(1:Nat)∧tA Y∧tB Y∧tC Y∧tD Y∧((0:Int)≤(↑Y.m.1:Int) ∧
(↑Y.m.1:Int)≤(↑Y.m.1:Int)∧okCl Y.c∧okMs (↑Y.c.n:Int) Y.m)∧(0:Int)≤(↑k:Int)∧(↑k:Int)<(↑P.1:Int)∧tA Y∧tB Y∧(∀ (i:Nat),i<P.1→True)∧(∀ (i:Nat),i<T.1→True)∧(∀ (i:Nat),i<Y.c.1→True)∧tC Y∧tD Y∧(SV.lst (1:Nat) P.n fun i=>i6 (P.f i))=(tnOf P.n fun i=>i6 (P.f i)).sv∧(SV.lst (1:Nat) T.n fun i=>i6 (T.f i))=(tnOf T.n fun i=>i6 (T.f i)).sv∧(SV.lst (1:Nat) Y.c.n fun i=>i6 (ctF Y.m (↑k:Int) (↑Y.m.n:Int).toNat i))=(tnOf Y.c.n fun i=>i6 (ctF Y.m (↑k:Int) (↑Y.m.n:Int).toNat i)).sv∧((0:Int)≤(↑k:Int)∧(0:Int)≤(0:Int)∧smP M Y (tnOf P.n fun i=>i6 (P.f i)) (↑k:Int).toNat (tnOf T.n fun i=>i6 (T.f i)) (tnOf Y.c.n fun i=>i6 (ctF Y.m (↑k:Int) (↑Y.m.n:Int).toNat i)) (Int.toNat (0:Int)) (P.f (↑k:Int).toNat))∧(smR (dvR (ctQ Y) (tnOf P.n fun i=>i6 (P.f i)).f (tnOf T.n fun i=>i6 (T.f i)).n ((tnOf P.n fun i=>i6 (P.f i)).n - ((↑k:Int).toNat+(1:Nat))) ((↑k:Int).toNat+(1:Nat))) (tnOf Y.c.n fun i=>i6 (ctF Y.m (↑k:Int) (↑Y.m.n:Int).toNat i)).f (tnOf T.n fun i=>i6 (T.f i)).n ((tnOf T.n fun i=>i6 (T.f i)).n - Int.toNat (0:Int)) (tnOf T.n fun i=>i6 (T.f i)).f (P.f (↑k:Int).toNat)↔dvR (ctQ Y) P.f T.n (P.n - k) k T.f)∧True)):=by kernel_rfl
theorem smG'_vc (M:Nat) (Y:Yd) (P:Tn) (k:Nat) (T:Tn) (C:Tn) (c:Nat) (o:Int):smG' M Y P k T C c o=(((↑c:Int)=(↑T.1:Int)→(o=(0:Int)→(0:Nat)<(1:Nat)∧rI ((↑k:Int)+(1:Int))∧tA Y∧tB Y∧(∀ (i:Nat),i<P.1→True)∧(∀ (i:Nat),i<T.1→True)∧tC Y∧tD Y∧(SV.lst (1:Nat) P.n fun i=>i6 (P.f i))=(tnOf P.n fun i=>i6 (P.f i)).sv∧(SV.lst (1:Nat) T.n fun i=>i6 (T.f i))=(tnOf T.n fun i=>i6 (T.f i)).sv∧((0:Int)≤(↑k:Int)+(1:Int)∧dvP M Y (tnOf P.n fun i=>i6 (P.f i)) ((↑k:Int)+(1:Int)).toNat (tnOf T.n fun i=>i6 (T.f i)))∧(dvR (ctQ Y) (tnOf P.n fun i=>i6 (P.f i)).f (tnOf T.n fun i=>i6 (T.f i)).n ((tnOf P.n fun i=>i6 (P.f i)).n - ((↑k:Int)+(1:Int)).toNat) ((↑k:Int)+(1:Int)).toNat (tnOf T.n fun i=>i6 (T.f i)).f↔smR (dvR (ctQ Y) P.f T.n (P.n - (k+(1:Nat))) (k+(1:Nat))) C.f T.n (T.n - c) T.f o)∧True)∧(¬o=(0:Int)→(false=true↔smR (dvR (ctQ Y) P.f T.n (P.n - (k+(1:Nat))) (k+(1:Nat))) C.f T.n (T.n - c) T.f o)∧True))∧(¬(↑c:Int)=(↑T.1:Int)→(∃ (z:Nat),smI' Y P k T C c o z∧P.1=P.1∧(∀ (i:Nat),i<P.1→rE ((i6 (P.f i)).den)∧True)∧rE (↑k:Int)∧T.1=T.1∧(∀ (i:Nat),i<T.1→rE ((i6 (T.f i)).den)∧True)∧C.1=C.1∧(∀ (i:Nat),i<C.1→rE ((i6 (C.f i)).den)∧True)∧rE (↑c:Int)∧o=o∧rE (0:Nat)∧rE (0:Nat)∧(0:Int)=(↑z:Int)∧rE Y.c.1∧(∀ (i:Nat),i<Y.c.1→rE ((Y.c.f i).sv.den)∧True ∧
True∧True∧True∧True∧True∧True∧True∧True)∧rE Y.m.1∧(∀ (i:Nat),i<Y.m.1→rE ((Y.m.f i).sv.den)∧True∧True∧True∧True)∧True)∧∀ (z:Nat),smI' Y P k T C c o z→(0:Int)≤(↑c:Int)∧(↑c:Int)<(↑C.1:Int)∧(0:Int)≤(↑c:Int)∧(↑c:Int)<(↑T.1:Int)∧((↑z:Int)≤min o (min (C.2 (↑c:Int).toNat) (T.2 (↑c:Int).toNat))→(∀ (i:Nat),i<T.1→rE true)∧rE (0:Nat)∧rE (0:Nat)∧(∀ (i:Nat),rE true)∧((0:Nat)+T.1)*(8:Nat)≤(140737488355328:Nat)∧(0:Nat)+T.1≤(4611686018427387904:Nat)∧(0:Int)≤(↑c:Int)∧(↑c:Int)<(↑T.1:Int)∧rI (T.2 (↑c:Int).toNat - (↑z:Int))∧(0:Int)≤(↑c:Int)∧(↑c:Int)<(↑((0:Nat)+T.1):Int)∧(0:Nat)+(1:Nat)≤(1:Nat)∧(0:Nat)+(↑c:Int).toNat<(0:Nat)+T.1∧(∀ (i':Nat),rE true)∧(0:Nat)<(1:Nat)∧rI ((↑c:Int)+(1:Int))∧rI (o - (↑z:Int))∧tA Y∧tB Y∧(∀ (i:Nat),i<P.1→True)∧(0:Nat)+((0:Nat)+T.1)≤(0:Nat)+T.1∧(∀ (i:Nat),i<(0:Nat)+T.1→rE (1:Nat)∧True)∧(∀ (i:Nat),i<C.1→True)∧tC Y∧tD Y∧(SV.lst (1:Nat) P.n fun i=>i6 (P.f i))=(tnOf P.n fun i=>i6 (P.f i)).sv ∧
(SV.lst (1:Nat) ((0:Nat)+T.n) (nxF T c (↑z:Int)))=(nxT T c (↑z:Int)).sv∧(SV.lst (1:Nat) C.n fun i=>i6 (C.f i))=(tnOf C.n fun i=>i6 (C.f i)).sv∧((0:Int)≤(↑k:Int)∧(0:Int)≤(↑c:Int)+(1:Int)∧smP M Y (tnOf P.n fun i=>i6 (P.f i)) (↑k:Int).toNat (nxT T c (↑z:Int)) (tnOf C.n fun i=>i6 (C.f i)) ((↑c:Int)+(1:Int)).toNat (o - (↑z:Int))) ∧
(smR (dvR (ctQ Y) (tnOf P.n fun i=>i6 (P.f i)).f (nxT T c (↑z:Int)).n ((tnOf P.n fun i=>i6 (P.f i)).n - ((↑k:Int).toNat+(1:Nat))) ((↑k:Int).toNat+(1:Nat))) (tnOf C.n fun i=>i6 (C.f i)).f (nxT T c (↑z:Int)).n ((nxT T c (↑z:Int)).n - ((↑c:Int)+(1:Int)).toNat) (nxT T c (↑z:Int)).f (o - (↑z:Int))→(rE true↔smR (dvR (ctQ Y) P.f T.n (P.n - (k+(1:Nat))) (k+(1:Nat))) C.f T.n (T.n - c) T.f o) ∧
True) ∧
(¬smR (dvR (ctQ Y) (tnOf P.n fun i=>i6 (P.f i)).f (nxT T c (↑z:Int)).n ((tnOf P.n fun i=>i6 (P.f i)).n - ((↑k:Int).toNat+(1:Nat))) ((↑k:Int).toNat+(1:Nat))) (tnOf C.n fun i=>i6 (C.f i)).f (nxT T c (↑z:Int)).n ((nxT T c (↑z:Int)).n - ((↑c:Int)+(1:Int)).toNat) (nxT T c (↑z:Int)).f (o - (↑z:Int))→rI ((↑z:Int)+(1:Int)) ∧
∃ (z_1:Nat),smI' Y P k T C c o z_1∧(C.2 c+(1:Int) - (↑z_1:Int)).toNat<(C.2 c+(1:Int) - (↑z:Int)).toNat∧P.1=P.1∧(∀ (i:Nat),i<P.1→rE ((i6 (P.f i)).den)∧True)∧rE (↑k:Int)∧T.1=T.1∧(∀ (i:Nat),i<T.1→rE ((i6 (T.f i)).den)∧True)∧C.1=C.1∧(∀ (i:Nat),i<C.1→rE ((i6 (C.f i)).den)∧True)∧rE (↑c:Int)∧o=o∧rE (0:Nat)∧rE (0:Nat)∧(↑z:Int)+(1:Int)=(↑z_1:Int)∧rE Y.c.1∧(∀ (i:Nat),i<Y.c.1→rE ((Y.c.f i).sv.den)∧True∧True∧True∧True∧True∧True∧True∧True∧True)∧rE Y.m.1∧(∀ (i:Nat),i<Y.m.1→rE ((Y.m.f i).sv.den)∧True∧True∧True∧True)∧True))∧(¬(↑z:Int)≤min o (min (C.2 (↑c:Int).toNat) (T.2 (↑c:Int).toNat))→(false=true↔smR (dvR (ctQ Y) P.f T.n (P.n - (k+(1:Nat))) (k+(1:Nat))) C.f T.n (T.n - c) T.f o)∧True))):=by kernel_rfl
theorem rcG_vc (Y:Yd) (a:Int) (T:Tn):rcG Y a T=((0:Nat)<(1:Nat)∧tA Y∧tB Y∧tC Y∧tD Y∧(Y.c.1≤(1000:Nat)∧Y.m.1≤(1000:Nat))∧(¬stE Y=(0:Int)→(false=true↔rcP Y a T)∧stE Y=rcE Y a T∧True)∧(¬¬stE Y=(0:Int)→rI ((↑(stN Y):Int) - (1:Int))∧(¬((0:Int)≤a∧a≤(↑(stN Y):Int) - (1:Int))→(false=true↔rcP Y a T)∧(2:Int)=rcE Y a T∧True)∧(¬¬((0:Int)≤a∧a≤(↑(stN Y):Int) - (1:Int))→(0:Nat)<(1:Nat)∧(¬(↑T.1:Int)=(↑Y.c.1:Int)→(false=true↔rcP Y a T)∧(2:Int)=rcE Y a T∧True)∧(¬¬(↑T.1:Int)=(↑Y.c.1:Int)→(0:Nat)<(1:Nat)∧(0:Int)≤a∧a<(↑(stN Y):Int)∧tA Y∧tB Y∧(∀ (i:Nat),i<lnJ Y.m→True)∧(∀ (i:Nat),i<T.1→True)∧tC Y∧tD Y∧(SV.lst (1:Nat) (lnJ Y.m) fun k=>i6 (oJ Y a.toNat k))=(tnOf (lnJ Y.m) fun k=>i6 (oJ Y a.toNat k)).sv∧(SV.lst (1:Nat) T.n fun i=>i6 (T.f i))=(tnOf T.n fun i=>i6 (T.f i)).sv∧((0:Int)≤(0:Int)∧dvP (1000:Nat) Y (tnOf (lnJ Y.m) fun k=>i6 (oJ Y a.toNat k)) (Int.toNat (0:Int)) (tnOf T.n fun i=>i6 (T.f i)))∧(dvR (ctQ Y) (tnOf (lnJ Y.m) fun k=>i6 (oJ Y a.toNat k)).f (tnOf T.n fun i=>i6 (T.f i)).n ((tnOf (lnJ Y.m) fun k=>i6 (oJ Y a.toNat k)).n - Int.toNat (0:Int)) (Int.toNat (0:Int)) (tnOf T.n fun i=>i6 (T.f i)).f↔rcP Y a T)∧(0:Int)=rcE Y a T∧True)))):=by kernel_rfl
end Go.Proofs.Ytfiaadlgfjokjaa

set_option maxRecDepth 100000
namespace Go.Proofs.Ytfiaadlgfjokjaa
open Go Go.Lg
attribute [local irreducible] funS bodyH bodyZ
theorem nx_n (T:Tn) (c:Nat) (z:Int):(nxT T c z).n=T.n:=by show 0+T.n=T.n; omega
theorem nx_f (T:Tn) (c:Nat) (z:Int):(nxT T c z).f=updJ T.f c (T.f c - z):=by
 funext i
 show (if i=0+c then T.f c - z else if i<0 then 0 else T.f (i - 0))=if i=c then T.f c - z else T.f i
 by_cases h:i=c
 ·rw [if_pos (by omega),if_pos h]
 ·rw [if_neg (by omega),if_neg h,if_neg (by omega)]; rfl
theorem nx_s (T:Tn) (c:Nat) (z:Int):SV.lst 1 T.n (nxF T c z)=(nxT T c z).sv:=by
 show _=SV.lst 1 (0+T.n) fun i=>i6 ((nxT T c z).f i)
 rw [Nat.zero_add]; rfl
theorem tn_et (T:Tn):(tnOf T.n fun i=>i6 (T.f i))=T:=rfl
theorem tn_sv (T:Tn):(SV.lst 1 T.n fun i=>i6 (T.f i))=T.sv:=rfl
theorem tn_ct (Y:Yd) (k:Nat):(tnOf Y.c.n fun i=>i6 (ctF Y.m k Y.m.n i))=⟨Y.c.n,ctQ Y k⟩:=rfl
theorem dv_true {M:Nat} {Y:Yd} {P:Tn} {k:Nat} {T:Tn} (h:dvP (M+1) Y P k T):dvG M Y P k T:=by
 rw [dvG_vc]
 have hn:=h.hn
 have hK:=h.hK
 have hk:=h.kl
 have hC:=h.hc
 have hM:=h.hm
 have hb:=hC.b
 have hu:=h.hu
 simp only [rI,rE,tA,tB,tC,tD,and_true,true_and,Nat.zero_lt_one,and_self,implies_true,Int.toNat_natCast,Classical.not_not,Nat.zero_add,Nat.add_zero,Bool.false_eq_true,false_iff,if_true,true_iff,hC,hM,tn_et,tn_sv,tn_ct,Int.toNat_zero,Nat.sub_zero]
 refine ⟨fun hk1=>⟨⟨0,⟨by omega,fun i hi=>by omega⟩,rfl⟩,fun z hz=>⟨fun hl=>⟨by omega,hl,fun hx hd=>?_,fun hx=>⟨by omega,z+1,⟨by omega,fun i hi=>?_⟩,by omega,by omega⟩⟩,fun hl=>?_⟩⟩,fun hk1=>?_⟩
 ·have e:P.n - k=0:=by omega
  rw [e] at hd
  exact hx (hd z (by omega))
 ·by_cases e:i=z
  ·subst e; exact hx
  ·exact hz.2 i (by omega)
 ·have e:P.n - k=0:=by omega
  rw [e]
  intro i hi
  exact hz.2 i (by omega)
 ·have e:P.n - k=(P.n - (k+1))+1:=by omega
  refine ⟨⟨by omega,by omega⟩,by omega,by omega,rfl,⟨by omega,by omega,⟨hC,hM,hn,hn.symm,hK,by omega,Nat.zero_le _,h.hg,h.ht,fun i hi=>?_,h.hg k (by omega),by omega⟩⟩,?_⟩
  ·have:=co_bd (o:=k) (i:=i) hM (k:=Y.m.n) (Nat.le_refl _)
   show ctQ Y k i≤_
   unfold ctQ; omega
  ·rw [e]; exact Iff.rfl
theorem sm_true' {M:Nat} {Y:Yd} {P:Tn} {k:Nat} {T C:Tn} {c:Nat} {o:Int} (h:smP (M+1) Y P k T C c o):smG' M Y P k T C c o:=by
 rw [smG'_vc]
 have hn:=h.hn
 have hK:=h.hK
 have hk:=h.kl
 have hC:=h.hc
 have hM:=h.hm
 have hb:=hC.b
 have hu:=h.hu
 have hx:=h.hx
 have hj:=h.hj
 have ho:=h.ho
 have hmul:(P.n - (k+1))*(T.n+2)+(T.n+2)=(P.n - k)*(T.n+2):=by
  have e:P.n - k=(P.n - (k+1))+1:=by omega
  rw [e,Nat.succ_mul]
 have et:((k:Int)+1).toNat=k+1:=by omega
 have ec:((c:Int)+1).toNat=c+1:=by omega
 simp only [rI,rE,tA,tB,tC,tD,and_true,true_and,Nat.zero_lt_one,and_self,implies_true,Int.toNat_natCast,Classical.not_not,Nat.zero_add,Nat.add_zero,Bool.false_eq_true,false_iff,if_true,true_iff,hC,hM,tn_et,tn_sv,Int.toNat_zero,Nat.sub_zero,et,ec,nx_n,nx_f]
 unfold rg at ho
 refine ⟨fun hc=>⟨fun h0=>?_,fun h0=>?_⟩,fun hc=>?_⟩
 ·have e:T.n - c=0:=by omega
  rw [e]
  refine ⟨by omega,⟨by omega,⟨hC,hM,hn,hK,by omega,h.hg,h.ht,by omega⟩⟩,?_⟩
  exact ⟨fun d=>⟨h0,d⟩,fun d=>d.2⟩
 ·have e:T.n - c=0:=by omega
  rw [e]
  exact fun d=>h0 d.1
 have hcl:c<T.n:=by omega
 have e:T.n - c=(T.n - (c+1))+1:=by omega
 have e2:T.n - (T.n - (c+1)+1)=c:=by omega
 have tc:=h.ht c hcl
 have yc:=h.hy c hcl
 unfold rg at tc
 refine ⟨⟨0,⟨hcl,fun i hi=>by omega⟩,rfl⟩,fun z hz=>⟨by omega,by omega,by omega,by omega,fun hl=>?_,fun hl=>?_⟩⟩
 ·have hzc:(z:Int)≤C.f c:=by omega
  refine ⟨by omega,by omega,by omega,by omega,by omega,by omega,by omega,by omega,by omega,by omega,by omega,by omega,nx_s T c z,⟨by omega,by omega,⟨hC,hM,by rw [nx_n]; exact hn,by rw [nx_n]; exact hx,hK,hk,by rw [nx_n]; omega,h.hg,fun i hi=>?_,fun i hi=>?_,?_,by rw [nx_n]; omega⟩⟩,fun hs=>?_,fun hs=>?_⟩
  ·rw [nx_f]
   unfold updJ rg
   rw [nx_n] at hi
   by_cases x:i=c
   ·rw [if_pos x]; omega
   ·rw [if_neg x]; have:=h.ht i hi; unfold rg at this; exact this
  ·rw [nx_n] at hi; exact h.hy i hi
  ·unfold rg; omega
  ·rw [e]
   exact ⟨z,by rw [e2]; omega,by rw [e2]; exact hs⟩
  ·refine ⟨by omega,z+1,⟨hcl,fun i hi=>?_⟩,by omega,by omega⟩
   by_cases x:i=z
   ·subst x; exact hs
   ·exact hz.h i (by omega)
 ·rw [e]
  rintro ⟨m,h1,h2⟩
  rw [e2] at h1 h2
  exact hz.h m (by omega) h2
theorem dv_step {M:Nat} (hc:(smC' M).Ok Try.prog):(dvC (M+1)).Ok Try.prog:=by
 refine ⟨by kernel_rfl,fun x k hk=>?_⟩
 simp only [dvC] at hk
 split at hk
 ·rename_i n f m g K p z x w
  obtain ⟨h1,h2,h3,h4,⟨h5,h6⟩,hk⟩:=hk
  obtain ⟨q,rfl⟩:=Int.eq_ofNat_of_zero_le h5
  have hh:=dv_true h6
  unfold dvG at hh
  simp only [Yd.sv] at hh
  rw [← h1,← h2,← h3,← h4] at hh
  have hh:funH Try.prog (ctrs [c8C,smC' M]) noX (ictrs []) _ noL 48 [.agg [.lst 8 n f,.lst 3 m g],.lst 1 K p,i6 q,.lst 1 x w] _:=hh
  exact ⟨_,plainD (ctrs_sound (by
   intro x hx
   simp at hx
   rcases hx with rfl | rfl
   ·exact c8_ok
   ·exact hc)) nilS_x nilS_ic hh (by simp [plainS,dvS]),hk⟩
 ·exact hk.elim
theorem sm_step {M:Nat} (hd:(dvC M).Ok Try.prog) (hc:(smC' M).Ok Try.prog):(smC' (M+1)).Ok Try.prog:=by
 refine ⟨by kernel_rfl,fun x k hk=>?_⟩
 simp only [smC'] at hk
 split at hk
 ·rename_i n f m g K p z x w b h c o
  obtain ⟨h1,h2,h3,h4,h5,⟨h6,h7,h8⟩,hk⟩:=hk
  obtain ⟨q,rfl⟩:=Int.eq_ofNat_of_zero_le h6
  obtain ⟨c,rfl⟩:=Int.eq_ofNat_of_zero_le h7
  have hh:=sm_true' h8
  unfold smG' at hh
  simp only [Yd.sv] at hh
  rw [← h1,← h2,← h3,← h4,← h5] at hh
  have hh:funH Try.prog (ctrs [dvC M,smC' M]) noX (ictrs []) _ noL 67 [.agg [.lst 8 n f,.lst 3 m g],.lst 1 K p,i6 q,.lst 1 x w,.lst 1 b h,i6 c,i6 o] _:=hh
  exact ⟨_,plainD (ctrs_sound (by
   intro x hx
   simp at hx
   rcases hx with rfl | rfl
   ·exact hd
   ·exact hc)) nilS_x nilS_ic hh (by simp [plainS,smS]),hk⟩
 ·exact hk.elim
theorem ds_ok:∀ M,(dvC M).Ok Try.prog∧(smC' M).Ok Try.prog
 | 0=>⟨⟨by kernel_rfl,fun x k hk=>by
   simp only [dvC] at hk
   split at hk
   ·obtain ⟨-,-,-,-,⟨-,h6⟩,-⟩:=hk
    have:=h6.hu
    omega
   ·exact hk.elim⟩,⟨by kernel_rfl,fun x k hk=>by
   simp only [smC'] at hk
   split at hk
   ·rename_i n f m g K p z x w b h c o
    obtain ⟨-,-,-,-,-,⟨h6,h7,h8⟩,-⟩:=hk
    have u:=h8.hu
    have kl:=h8.kl
    have j:=h8.hj
    have e:(tnOf K p).n - z.toNat=((tnOf K p).n - z.toNat - 1)+1:=by omega
    rw [e,Nat.succ_mul] at u
    omega
   ·exact hk.elim⟩⟩
 | M+1=>⟨dv_step (ds_ok M).2,sm_step (ds_ok M).1 (ds_ok M).2⟩
theorem rc_true {Y:Yd} {a:Int} {T:Tn} (h:Y.c.n≤1000∧Y.m.n≤1000) (ht:∀ i,i<T.n→rg (T.f i)):rcG Y a T:=by
 rw [rcG_vc]
 have e1:(tnOf (lnJ Y.m) fun k=>i6 (oJ Y a.toNat k))=⟨lnJ Y.m,fun k=>oJ Y a.toNat k⟩:=rfl
 simp only [rI,rE,tA,tB,tC,tD,and_true,true_and,Nat.zero_lt_one,and_self,implies_true,Int.toNat_natCast,Classical.not_not,Nat.zero_add,Nat.add_zero,Bool.false_eq_true,false_iff,if_true,true_iff,tn_et,tn_sv,Int.toNat_zero,Nat.sub_zero,e1,h]
 have no:rcE Y a T≠0→¬ rcP Y a T:=fun x y=>x y.e
 refine ⟨fun h0=>?_,fun h0=>⟨?_,fun h1=>?_,fun h1=>⟨fun h2=>?_,fun h2=>?_⟩⟩⟩
 ·have e:rcE Y a T=stE Y:=by unfold rcE; rw [if_neg h0]
  exact ⟨no (by omega),e.symm⟩
 ·obtain ⟨⟨hC,hM⟩,hO,hN⟩:=st_ok0 h0
  have:=dn_i Y.m Y.m.n
  omega
 ·obtain ⟨⟨hC,hM⟩,hO,hN⟩:=st_ok0 h0
  have e:rcE Y a T=2:=by unfold rcE; rw [if_pos h0,if_neg (by omega)]
  exact ⟨no (by omega),e.symm⟩
 ·have e:rcE Y a T=2:=by unfold rcE; rw [if_pos h0,if_neg (by omega)]
  exact ⟨no (by omega),e.symm⟩
 ·obtain ⟨⟨hC,hM⟩,hO,hN⟩:=st_ok0 h0
  have e:rcE Y a T=0:=by unfold rcE; rw [if_pos h0,if_pos (by omega)]
  have hn:=hM.n
  have hb:=hC.b
  have hl:=ln_le Y.m
  have hu:(lnJ Y.m - 0)*(T.n+2)<1000:=by
   have:(lnJ Y.m - 0)*(T.n+2)≤32*8:=Nat.mul_le_mul (by omega) (by omega)
   omega
  refine ⟨by omega,by omega,rfl,⟨by omega,⟨hC,hM,by omega,by show lnJ Y.m≤1000; omega,Nat.zero_le _,fun i hi=>?_,ht,hu⟩⟩,?_,e.symm⟩
  ·have:=oJ_bd hC hM (d:=a.toNat) (k:=i) (by omega)
   show rg (oJ Y a.toNat i)
   unfold rg; omega
  ·exact ⟨fun d=>⟨e,d⟩,fun d=>d.d⟩
theorem rc_ok:rcC.Ok Try.prog:=by
 refine ⟨by kernel_rfl,fun x k hk=>?_⟩
 simp only [rcC] at hk
 split at hk
 ·rename_i n f m g a x y
  obtain ⟨h1,h2,h3,⟨h4,h5⟩,hk⟩:=hk
  have hh:=rc_true (Y:=⟨clOf n f,msOf m g⟩) (a:=a) (T:=tnOf x y) h4 h5
  unfold rcG at hh
  simp only [Yd.sv] at hh
  rw [← h1,← h2,← h3] at hh
  have hh:funH Try.prog (ctrsF [stC] (ctrs [inC,dvC 1000])) noX (ictrs []) noL noL 22 [.agg [.lst 8 n f,.lst 3 m g],i6 a,.lst 1 x y] _:=hh
  exact ⟨_,plainD (ctrsF_sound (ctrs_sound (by
   intro x hx
   simp at hx
   rcases hx with rfl | rfl
   ·exact in_ok
   ·exact (ds_ok 1000).1)) (by intro x hx; simp at hx; subst hx; exact st_okT)) nilS_x nilS_ic hh (by simp [plainS,plainS.plainL]),hk⟩
 ·exact hk.elim
end Go.Proofs.Ytfiaadlgfjokjaa

namespace Go.Proofs.Ytfiaadlgfjokjaa
open Go Go.Lg
noncomputable def sU (S:Nat→Bool) (f:Nat→Int) (n:Nat):Int:=sumJ (fun i=>bif S i then f i else 0) n
noncomputable def fcU (ct:Nat→Nat→Int) (g:Nat→Int) (n K:Nat) (S:Nat→Bool):Int:=sumJ (fun q=>min (g q) (sU S (ct q) n)) K
theorem s_cg {f g:Nat→Int}:∀ {m:Nat},(∀ i,i<m→f i=g i)→sumJ f m=sumJ g m
 | 0,_=>rfl
 | m+1,h=>by
  show sumJ f m+f m=sumJ g m+g m
  rw [s_cg (m:=m) fun i hi=>h i (by omega),h m (by omega)]
theorem s_le {f g:Nat→Int}:∀ {m:Nat},(∀ i,i<m→f i≤g i)→sumJ f m≤sumJ g m
 | 0,_=>Int.le_refl _
 | m+1,h=>by
  have:=s_le (m:=m) fun i hi=>h i (by omega)
  have:=h m (by omega)
  show sumJ f m+f m≤sumJ g m+g m
  omega
theorem s_nn {f:Nat→Int} {m:Nat} (h:∀ i,i<m→0≤f i):0≤sumJ f m:=by
 have:=s_le (f:=fun _=>0) (g:=f) (m:=m) h
 rw [sum_z (f:=fun _=>0) fun i hi=>rfl] at this
 exact this
theorem s_upd {f f':Nat→Int} {p:Nat}:∀ {m:Nat},p<m→(∀ q,q<m→q≠p→f' q=f q)→sumJ f' m=sumJ f m+(f' p - f p)
 | 0,h,_=>by omega
 | m+1,h,e=>by
  show sumJ f' m+f' m=sumJ f m+f m+(f' p - f p)
  by_cases x:p=m
  ·subst x
   rw [s_cg (f:=f') (g:=f) fun i hi=>e i (by omega) (by omega)]
   omega
  ·rw [s_upd (by omega:p<m) fun q hq=>e q (by omega),e m (by omega) (by omega)]
   omega
theorem s_sh (G:Nat→Int) (k:Nat):∀ r,sumJ (fun j=>G (k+j)) (r+1)=G k+sumJ (fun j=>G (k+1+j)) r
 | 0=>by show (0:Int)+G (k+0)=G k+0; simp
 | r+1=>by
  have i:=s_sh G k r
  show sumJ (fun j=>G (k+j)) (r+1)+G (k+(r+1))=G k+(sumJ (fun j=>G (k+1+j)) r+G (k+1+r))
  rw [i,show k+(r+1)=k+1+r by omega]
  omega
theorem s_all {f:Nat→Int} {m:Nat} (h:∀ i,i<m→0≤f i) (h0:sumJ f m=0):∀ i,i<m→f i=0:=by
 induction m with
 | zero=>intro i hi; omega
 | succ m ih =>
  have a:=s_nn (m:=m) fun i hi=>h i (by omega)
  have b:=h m (by omega)
  have e:sumJ f m+f m=0:=h0
  intro i hi
  by_cases x:i=m
  ·subst x; omega
  ·exact ih (fun i hi=>h i (by omega)) (by omega) i (by omega)
section
variable {n K:Nat}
theorem u_nn {S:Nat→Bool} {f:Nat→Int} (h:∀ i,i<n→0≤f i):0≤sU S f n:=s_nn fun i hi=>by
 cases S i
 ·exact Int.le_refl _
 ·exact h i hi
theorem u_add (S:Nat→Bool) (f g:Nat→Int):sU S (fun i=>f i+g i) n=sU S f n+sU S g n:=by
 unfold sU
 rw [← sum_add]
 exact s_cg fun i hi=>by cases hs:S i <;> simp [hs]
theorem u_mod (A B:Nat→Bool) (f:Nat→Int):sU (fun i=>A i || B i) f n+sU (fun i=>A i && B i) f n=sU A f n+sU B f n:=by
 unfold sU
 rw [← sum_add,← sum_add]
 exact s_cg fun i hi=>by cases ha:A i <;> cases hb:B i <;> simp [ha,hb]
theorem u_mono {A B:Nat→Bool} {f:Nat→Int} (h:∀ i,i<n→0≤f i) (hs:∀ i,A i=true→B i=true):sU A f n≤sU B f n:=s_le fun i hi=>by
 have:=h i hi
 cases ha:A i
 ·cases B i
  ·exact Int.le_refl _
  ·exact this
 ·rw [hs i ha]; exact Int.le_refl _
theorem u_ins {U:Nat→Bool} {f:Nat→Int} {i:Nat} (hi:i<n) (hU:U i=false):sU (fun j=>U j || j == i) f n=sU U f n+f i:=by
 unfold sU
 rw [s_upd (f:=fun j=>bif U j then f j else 0) hi fun q hq hne=>by
  have:(q == i)=false:=by simpa using hne
  simp only [this,Bool.or_false]]
 simp [hU]
theorem u_upd {S:Nat→Bool} {f f':Nat→Int} {i:Nat} (hi:i<n) (h:∀ q,q<n→q≠i→f' q=f q):sU S f' n=sU S f n+(bif S i then f' i - f i else 0):=by
 unfold sU
 rw [s_upd (f:=fun j=>bif S j then f j else 0) hi fun q hq hne=>by simp only [h q hq hne]]
 cases hs:S i <;> simp [hs]
def ExU (ct:Nat→Nat→Int) (g T:Nat→Int) (n K:Nat):Prop:=∃ x:Nat→Nat→Int,(∀ q,q<K→∀ i,i<n→0≤x q i∧x q i≤ct q i)∧(∀ q,q<K→sumJ (x q) n=g q)∧∀ i,i<n→T i=sumJ (fun q=>x q i) K
structure HaU (ct:Nat→Nat→Int) (g T:Nat→Int) (n K:Nat):Prop where
 hc:∀ q,q<K→∀ i,i<n→0≤ct q i
 hg:∀ q,q<K→0≤g q
 ht:∀ i,i<n→0≤T i
 he:sumJ T n=sumJ g K
 hf:∀ S,sU S T n≤fcU ct g n K S
theorem tight {ct:Nat→Nat→Int} {g T:Nat→Int} (h:HaU ct g T n K) {A B:Nat→Bool} (hA:sU A T n=fcU ct g n K A) (hB:sU B T n=fcU ct g n K B):sU (fun i=>A i || B i) T n=fcU ct g n K fun i=>A i || B i:=by
 have m:=u_mod (n:=n) A B T
 have a:=h.hf fun i=>A i || B i
 have b:=h.hf fun i=>A i && B i
 have s:fcU ct g n K (fun i=>A i || B i)+fcU ct g n K (fun i=>A i && B i)≤fcU ct g n K A+fcU ct g n K B:=by
  unfold fcU
  rw [← sum_add,← sum_add]
  refine s_le fun q hq=>?_
  have m:=u_mod (n:=n) A B (ct q)
  have x:=u_mono (A:=A) (B:=fun i=>A i || B i) (h.hc q hq) fun i hi=>by simp [hi]
  have y:=u_mono (A:=B) (B:=fun i=>A i || B i) (h.hc q hq) fun i hi=>by simp [hi]
  omega
 omega
theorem one_more {ct:Nat→Nat→Int} {g T:Nat→Int} (h:HaU ct g T n K) {i:Nat} (hi:i<n) (hT:0<T i):∃ p,p<K∧0<g p∧0<ct p i∧∀ S:Nat→Bool,S i=false→sU S T n=fcU ct g n K S→¬ g p≤sU S (ct p) n:=by
 refine Classical.byContradiction fun hn=>?_
 have all:∀ p,p<K→0<g p→0<ct p i→∃ S:Nat→Bool,S i=false∧sU S T n=fcU ct g n K S∧g p≤sU S (ct p) n:=fun p h1 h2 h3=>by
  refine Classical.byContradiction fun hx=>hn ⟨p,h1,h2,h3,fun S a b c=>hx ⟨S,a,b,c⟩⟩
 have U:∀ k,k≤K→∃ U:Nat→Bool,U i=false∧sU U T n=fcU ct g n K U∧∀ p,p<k→0<g p→0<ct p i→g p≤sU U (ct p) n:=by
  intro k
  induction k with
  | zero =>
   intro _
   refine ⟨fun _=>false,rfl,?_,fun p hp=>by omega⟩
   have z:∀ f:Nat→Int,sU (fun _=>false) f n=0:=fun f=>sum_z fun i hi=>rfl
   rw [z]
   unfold fcU
   exact (sum_z fun q hq=>by rw [z]; have:=h.hg q hq; omega).symm
  | succ k ih =>
   intro hk
   obtain ⟨U,u1,u2,u3⟩:=ih (by omega)
   by_cases hc:0<g k∧0<ct k i
   ·obtain ⟨S,s1,s2,s3⟩:=all k (by omega) hc.1 hc.2
    refine ⟨fun j=>U j || S j,by simp [u1,s1],tight h u2 s2,fun p hp a b=>?_⟩
    by_cases x:p=k
    ·subst x
     have:=u_mono (A:=S) (B:=fun j=>U j || S j) (h.hc p (by omega)) fun j hj=>by simp [hj]
     omega
    ·have:=u_mono (A:=U) (B:=fun j=>U j || S j) (h.hc p (by omega)) fun j hj=>by simp [hj]
     have:=u3 p (by omega) a b
     omega
   ·refine ⟨U,u1,u2,fun p hp a b=>?_⟩
    by_cases x:p=k
    ·subst x; exact absurd ⟨a,b⟩ hc
    ·exact u3 p (by omega) a b
 obtain ⟨U,u1,u2,u3⟩:=U K (Nat.le_refl _)
 have c:=h.hf fun j=>U j || j == i
 rw [u_ins hi u1] at c
 have e:fcU ct g n K (fun j=>U j || j == i)=fcU ct g n K U:=by
  unfold fcU
  refine s_cg fun q hq=>?_
  rw [u_ins hi u1]
  have a:=h.hc q hq i hi
  have b:=h.hg q hq
  have d:=u_nn (S:=U) (h.hc q hq)
  by_cases x:0<g q∧0<ct q i
  ·have:=u3 q hq x.1 x.2; omega
  ·omega
 omega
theorem hall {ct:Nat→Nat→Int}:∀ (N:Nat) {ct:Nat→Nat→Int} {g T:Nat→Int},HaU ct g T n K→sumJ T n=N→ExU ct g T n K
 | 0,ct,g,T,h,hN=>by
  have t:=s_all h.ht hN
  have g0:=s_all h.hg (by rw [← h.he]; exact hN)
  exact ⟨fun _ _=>0,fun q hq i hi=>⟨Int.le_refl _,h.hc q hq i hi⟩,fun q hq=>by rw [g0 q hq]; exact sum_z fun i hi=>rfl,fun i hi=>by rw [t i hi]; exact (sum_z fun q hq=>rfl).symm⟩
 | N+1,ct,g,T,h,hN=>by
  obtain ⟨i,hi,hT⟩:∃ i,i<n∧0<T i:=by
   refine Classical.byContradiction fun hn=>?_
   have:sumJ T n=0:=sum_z fun i hi=>by
    have:=h.ht i hi
    have:¬ 0<T i:=fun x=>hn ⟨i,hi,x⟩
    omega
   omega
  obtain ⟨p,hp,hg,hc,hS⟩:=one_more h hi hT
  have tI:∀ q,q<n→q≠i→(fun j=>if j=i then T j - 1 else T j) q=T q:=fun q _ x=>if_neg x
  have gI:∀ q,q<K→q≠p→(fun j=>if j=p then g j - 1 else g j) q=g q:=fun q _ x=>if_neg x
  have cI:∀ S:Nat→Bool,sU S (fun j=>if j=i then ct p j - 1 else ct p j) n=sU S (ct p) n+(bif S i then -1 else 0):=fun S=>by
   rw [u_upd (f:=ct p) hi fun q _ x=>if_neg x]
   simp only [if_true]
   cases hs:S i
   ·rfl
   ·simp only [cond_true]; omega
  have h':HaU (fun q j=>if q=p then (if j=i then ct q j - 1 else ct q j) else ct q j) (fun j=>if j=p then g j - 1 else g j) (fun j=>if j=i then T j - 1 else T j) n K:=by
   refine ⟨fun q hq j hj=>?_,fun q hq=>?_,fun j hj=>?_,?_,fun S=>?_⟩
   ·have a:=h.hc q hq j hj
    by_cases x:q=p
    ·subst x
     by_cases y:j=i
     ·subst y; simp only [if_true]; omega
     ·simp only [if_true,if_neg y]; exact a
    ·simp only [if_neg x]; exact a
   ·have a:=h.hg q hq
    by_cases x:q=p
    ·subst x; simp only [if_true]; omega
    ·simp only [if_neg x]; exact a
   ·have a:=h.ht j hj
    by_cases x:j=i
    ·subst x; simp only [if_true]; omega
    ·simp only [if_neg x]; exact a
   ·rw [s_upd (f:=T) hi tI,s_upd (f:=g) hp gI,h.he]
    simp only [if_true]; omega
   ·have f:=h.hf S
    rw [u_upd (f:=T) hi tI]
    have e:fcU (fun q j=>if q=p then (if j=i then ct q j - 1 else ct q j) else ct q j) (fun j=>if j=p then g j - 1 else g j) n K S=fcU ct g n K S+(min (g p - 1) (sU S (ct p) n+(bif S i then -1 else 0)) - min (g p) (sU S (ct p) n)):=by
     unfold fcU
     rw [s_upd (f:=fun q=>min (g q) (sU S (ct q) n)) hp fun q hq hne=>by simp only [if_neg hne]]
     simp only [if_true,cI]
    rw [e]
    cases hs:S i
    ·simp only [cond_false]
     by_cases x:sU S T n=fcU ct g n K S
     ·have:=hS S hs x
      omega
     ·omega
    ·simp only [cond_true,if_true]
     omega
  obtain ⟨x,x1,x2,x3⟩:=hall (ct:=ct) N h' (by
   rw [s_upd (f:=T) hi tI]
   simp only [if_true]; omega)
  refine ⟨fun q j=>if q=p then (if j=i then x q j+1 else x q j) else x q j,fun q hq j hj=>?_,fun q hq=>?_,fun j hj=>?_⟩
  ·have a:=x1 q hq j hj
   by_cases y:q=p
   ·subst y
    by_cases z:j=i
    ·subst z; simp only [if_true] at a ⊢; omega
    ·simp only [if_true,if_neg z] at a ⊢; exact a
   ·simp only [if_neg y] at a ⊢; exact a
  ·have a:=x2 q hq
   by_cases y:q=p
   ·subst y
    simp only [if_true] at a ⊢
    rw [s_upd (f:=x q) hi fun j _ z=>if_neg z]
    simp only [if_true]; omega
   ·simp only [if_neg y] at a ⊢; exact a
  ·have a:=x3 j hj
   by_cases z:j=i
   ·subst z
    simp only [if_true] at a ⊢
    rw [s_upd (f:=fun q=>x q j) hp fun q _ y=>by simp only [if_neg y]]
    simp only [if_true]; omega
   ·simp only [if_neg z] at a ⊢
    rw [a]
    exact s_cg fun q hq=>by by_cases y:q=p <;> simp [y]
end
end Go.Proofs.Ytfiaadlgfjokjaa

namespace Go.Proofs.Ytfiaadlgfjokjaa
open Go Go.Lg
section
variable {n:Nat}
structure suY (ct T y:Nat→Int) (n r:Nat) (o:Int):Prop where
 a:∀ i,i<n - r→y i=0
 b:∀ i,n≤i→y i=0
 c:∀ i,i<n→0≤y i∧y i≤max 0 (ct i)∧(n - r≤i→y i≤ct i)
 s:sumJ y n=o
 t:∀ i,n - r≤i→i<n→y i≤T i
theorem sm_of {D:(Nat→Int)→Prop} {ct:Nat→Int}:∀ (r:Nat),r≤n→∀ {T:Nat→Int} {o:Int} {y:Nat→Int},suY ct T y n r o→D (fun i=>T i - y i)→smR D ct n r T o
 | 0,hr,T,o,y,h,hD=>by
  have z:∀ i,y i=0:=fun i=>by
   by_cases x:i<n
   ·exact h.a i (by omega)
   ·exact h.b i (by omega)
  have e:(fun i=>T i - y i)=T:=by funext i; rw [z]; omega
  rw [e] at hD
  refine ⟨?_,hD⟩
  rw [← h.s]; exact sum_z fun i hi=>z i
 | r+1,hr,T,o,y,h,hD=>by
  have hc:=h.c (n - (r+1)) (by omega)
  have hm:=hc.2.2 (Nat.le_refl _)
  have ht:=h.t (n - (r+1)) (Nat.le_refl _) (by omega)
  obtain ⟨m,em⟩:=Int.eq_ofNat_of_zero_le hc.1
  have su:=s_upd (f:=y) (f':=fun i=>if i=n - (r+1) then 0 else y i) (p:=n - (r+1)) (m:=n) (by omega) fun q _ x=>if_neg x
  simp only [if_true] at su
  have rest:suY ct (updJ T (n - (r+1)) (T (n - (r+1)) - m)) (fun i=>if i=n - (r+1) then 0 else y i) n r (o - m):=by
   refine ⟨fun i hi=>?_,fun i hi=>?_,fun i hi=>?_,?_,fun i hi hin=>?_⟩
   ·by_cases x:i=n - (r+1)
    ·exact if_pos x
    ·rw [if_neg x]; exact h.a i (by omega)
   ·rw [if_neg (by omega)]; exact h.b i hi
   ·by_cases x:i=n - (r+1)
    ·rw [if_pos x]; omega
    ·rw [if_neg x]
     have:=h.c i hi
     exact ⟨this.1,this.2.1,fun z=>this.2.2 (by omega)⟩
   ·rw [su,h.s]; omega
   ·rw [if_neg (by omega)]
    unfold updJ
    rw [if_neg (by omega)]
    exact h.t i (by omega) hin
  have hs:sumJ y n=o:=h.s
  have yo:y (n - (r+1))≤o:=by
   have nn:=s_nn (f:=fun i=>if i=n - (r+1) then 0 else y i) (m:=n) fun i hi=>(rest.c i hi).1
   rw [su] at nn
   omega
  refine ⟨m,by omega,sm_of r (by omega) rest ?_⟩
  have e:(fun i=>updJ T (n - (r+1)) (T (n - (r+1)) - m) i - if i=n - (r+1) then 0 else y i)=fun i=>T i - y i:=by
   funext i
   unfold updJ
   by_cases x:i=n - (r+1)
   ·rw [if_pos x,if_pos x,x]; omega
   ·rw [if_neg x,if_neg x]
  rw [e]; exact hD
theorem of_sm {D:(Nat→Int)→Prop} {ct:Nat→Int}:∀ (r:Nat),r≤n→∀ {T:Nat→Int} {o:Int},smR D ct n r T o→∃ y:Nat→Int,suY ct T y n r o∧D fun i=>T i - y i
 | 0,hr,T,o,h=>by
  obtain ⟨h0,hD⟩:=h
  refine ⟨fun _=>0,⟨fun _ _=>rfl,fun _ _=>rfl,fun i hi=>⟨Int.le_refl _,by omega,fun x=>by omega⟩,?_,fun i a b=>by omega⟩,?_⟩
  ·rw [h0]; exact sum_z fun i hi=>rfl
  ·have e:(fun i=>T i - 0)=T:=by funext i; omega
   rw [e]; exact hD
 | r+1,hr,T,o,h=>by
  obtain ⟨m,h1,h2⟩:=h
  obtain ⟨y,s,hD⟩:=of_sm r (by omega) h2
  have y0:y (n - (r+1))=0:=s.a _ (by omega)
  have su:=s_upd (f:=y) (f':=fun i=>if i=n - (r+1) then (m:Int) else y i) (p:=n - (r+1)) (m:=n) (by omega) fun q _ x=>if_neg x
  simp only [if_true] at su
  refine ⟨fun i=>if i=n - (r+1) then (m:Int) else y i,⟨fun i hi=>?_,fun i hi=>?_,fun i hi=>?_,?_,fun i hi hin=>?_⟩,?_⟩
  ·rw [if_neg (by omega)]; exact s.a i (by omega)
  ·rw [if_neg (by omega)]; exact s.b i hi
  ·by_cases x:i=n - (r+1)
   ·rw [if_pos x,x]; omega
   ·rw [if_neg x]
    have:=s.c i hi
    exact ⟨this.1,this.2.1,fun z=>this.2.2 (by omega)⟩
  ·rw [su,s.s,y0]; omega
  ·by_cases x:i=n - (r+1)
   ·rw [if_pos x,x]; omega
   ·rw [if_neg x]
    have:=s.t i (by omega) hin
    unfold updJ at this
    rw [if_neg x] at this
    exact this
  ·have e:(fun i=>T i - if i=n - (r+1) then (m:Int) else y i)=fun i=>updJ T (n - (r+1)) (T (n - (r+1)) - m) i - y i:=by
    funext i
    unfold updJ
    by_cases x:i=n - (r+1)
    ·rw [if_pos x,if_pos x,x,y0]; omega
    ·rw [if_neg x,if_neg x]
   rw [e]; exact hD
theorem dv_of {ct:Nat→Nat→Int} {g:Nat→Int}:∀ (r k:Nat) {T:Nat→Int} {x:Nat→Nat→Int},(∀ q,q<r→∀ i,i<n→0≤x (k+q) i∧x (k+q) i≤ct (k+q) i)→(∀ q,q<r→sumJ (x (k+q)) n=g (k+q))→(∀ i,i<n→T i=sumJ (fun q=>x (k+q) i) r)→dvR ct g n r k T
 | 0,k,T,x,h1,h2,h3=>fun i hi=>h3 i hi
 | r+1,k,T,x,h1,h2,h3=>by
  show smR (dvR ct g n r (k+1)) (ct k) n n T (g k)
  have hx:∀ i,i<n→T i=x k i+sumJ (fun q=>x (k+1+q) i) r:=fun i hi=>by rw [h3 i hi]; exact s_sh (fun j=>x j i) k r
  have n1:∀ q,q<r→∀ i,i<n→0≤x (k+1+q) i∧x (k+1+q) i≤ct (k+1+q) i:=fun q hq i hi=>by
   have:=h1 (q+1) (by omega) i hi
   rwa [show k+(q+1)=k+1+q by omega] at this
  refine sm_of (y:=fun i=>if i<n then x k i else 0) n (Nat.le_refl _) ⟨fun i hi=>by omega,fun i hi=>if_neg (by omega),fun i hi=>?_,?_,fun i _ hi=>?_⟩ ?_
  ·have:=h1 0 (by omega) i hi
   rw [if_pos hi]
   exact ⟨this.1,by have:=this.2; rw [Nat.add_zero] at this; omega,fun _=>this.2⟩
  ·have e:=h2 0 (by omega)
   rw [Nat.add_zero] at e
   rw [← e]
   exact s_cg fun i hi=>if_pos hi
  ·rw [if_pos hi,hx i hi]
   have:=s_nn (f:=fun q=>x (k+1+q) i) (m:=r) fun q hq=>(n1 q hq i hi).1
   omega
  ·refine dv_of r (k+1) (x:=x) n1 (fun q hq=>?_) fun i hi=>?_
   ·have:=h2 (q+1) (by omega)
    rwa [show k+(q+1)=k+1+q by omega] at this
   ·rw [if_pos hi,hx i hi]; omega
theorem of_dv {ct:Nat→Nat→Int} {g:Nat→Int}:∀ (r k:Nat) {T:Nat→Int},dvR ct g n r k T→(∀ i,i<n→0≤T i)∧sumJ T n=sumJ (fun j=>g (k+j)) r∧∀ S,sU S T n≤sumJ (fun j=>min (g (k+j)) (sU S (ct (k+j)) n)) r
 | 0,k,T,h=>by
  have z:∀ i,i<n→T i=0:=h
  refine ⟨fun i hi=>by rw [z i hi]; exact Int.le_refl _,sum_z z,fun S=>?_⟩
  have:sU S T n=0:=sum_z fun i hi=>by rw [z i hi]; cases S i <;> rfl
  rw [this]; exact Int.le_refl _
 | r+1,k,T,h=>by
  have h:smR (dvR ct g n r (k+1)) (ct k) n n T (g k):=h
  obtain ⟨y,s,hD⟩:=of_sm n (Nat.le_refl _) h
  obtain ⟨a,b,c⟩:=of_dv r (k+1) hD
  refine ⟨fun i hi=>?_,?_,fun S=>?_⟩
  ·have:=a i hi
   have:=(s.c i hi).1
   omega
  ·rw [s_sh]
   have:sumJ T n=sumJ y n+sumJ (fun i=>T i - y i) n:=by
    rw [← sum_add]; exact s_cg fun i hi=>by omega
   rw [this,s.s,b]
  ·rw [s_sh (fun j=>min (g j) (sU S (ct j) n))]
   have e:sU S T n=sU S y n+sU S (fun i=>T i - y i) n:=by
    rw [← u_add]
    congr 1
    funext i; omega
   have l1:sU S y n≤g k:=by
    rw [← s.s]
    refine s_le fun i hi=>?_
    have:=(s.c i hi).1
    cases S i
    ·exact this
    ·exact Int.le_refl _
   have l2:sU S y n≤sU S (ct k) n:=by
    refine s_le fun i hi=>?_
    have:=(s.c i hi).2.2 (by omega)
    cases S i
    ·exact Int.le_refl _
    ·exact this
   have:=c S
   rw [e]
   omega
end
end Go.Proofs.Ytfiaadlgfjokjaa

set_option maxRecDepth 100000
namespace Go.Proofs.Ytfiaadlgfjokjaa
open Go Go.Lg
attribute [local irreducible] funS bodyH bodyZ
theorem po_G' {M:Ms} {s:Tw} (G:Pn→Int):∀ K,(∀ k,k<K→cmT s (lyF M k).st=0→G ⟨lyF M k,k,0⟩=0)→sumJ (fun i=>G ((poM M s K).getD i zP)) (poM M s K).length=sumJ (fun k=>G ⟨lyF M k,k,cmT s (lyF M k).st⟩) K
 | 0,_=>rfl
 | K+1,h=>by
  have ih:=po_G' G K fun k hk=>h k (by omega)
  show _=sumJ (fun k=>G ⟨lyF M k,k,cmT s (lyF M k).st⟩) K+G ⟨lyF M K,K,cmT s (lyF M K).st⟩
  rw [← ih]
  have hnn:=cm_nn s (lyF M K).st
  by_cases x:0<cmT s (lyF M K).st
  ·have e:poM M s (K+1)=poM M s K ++ [⟨lyF M K,K,cmT s (lyF M K).st⟩]:=by
    show poL (lyF M) s (K+1)=poL (lyF M) s K ++ _
    simp only [poL]; rw [if_pos x]
   rw [e,List.length_append]
   show sumJ _ (poM M s K).length+G (((poM M s K) ++ [_]).getD (poM M s K).length zP)=_
   congr 1
   ·exact sumJ_congr fun i hi=>by rw [List.getD_eq_getElem?_getD,List.getD_eq_getElem?_getD,List.getElem?_append_left hi]
   ·simp [List.getD]
  ·have e:poM M s (K+1)=poM M s K:=by
    show poL (lyF M) s (K+1)=poL (lyF M) s K
    simp only [poL]; rw [if_neg x]
   have z:cmT s (lyF M K).st=0:=by omega
   rw [e,z,h K (by omega) z]; omega
theorem bits (S:Nat→Bool):∀ n,∃ s:Nat,s<2 ^ n∧∀ i,i<n→s.testBit i=S i
 | 0=>⟨0,by decide,fun i hi=>by omega⟩
 | n+1=>by
  obtain ⟨s,h1,h2⟩:=bits S n
  have e:2 ^ (n+1)=2 ^ n*2:=Nat.pow_succ 2 n
  cases hb:S n
  ·refine ⟨s,by omega,fun i hi=>?_⟩
   by_cases x:i=n
   ·subst x; rw [hb]; exact Nat.testBit_lt_two_pow h1
   ·exact h2 i (by omega)
  ·refine ⟨2 ^ n+s,by omega,fun i hi=>?_⟩
   by_cases x:i=n
   ·subst x
    rw [hb,Nat.testBit_two_pow_add_eq,Nat.testBit_lt_two_pow h1]; rfl
   ·rw [Nat.testBit_two_pow_add_gt (by omega)]; exact h2 i (by omega)
noncomputable def bsB (S:Int) (i:Nat):Bool:=S.toNat.testBit i
theorem as_U {T:Tn} {S:Int} (h0:0≤S) (h:S<2 ^ 63) {B:Nat→Bool} {m:Nat} (hm:T.n=m) (hB:∀ i,i<m→S.toNat.testBit i=B i):asS T S=sU B T.f m:=by
 subst hm
 unfold asS asJ sU
 refine s_cg fun i hi=>?_
 have e:=bi_tb (n:=(i:Int)) h0 h
 rw [Int.toNat_natCast,hB i hi] at e
 unfold akI
 by_cases x:biP S i
 ·rw [if_pos x,e.1 x]; rfl
 ·rw [if_neg x]
  cases hb:B i
  ·rfl
  ·exact absurd (e.2 hb) x
theorem ct_0 {Y:Yd} (hM:okMs Y.c.n Y.m) {q i:Nat} (hi:Y.c.n≤i):ctQ Y q i=0:=by
 unfold ctQ ctF
 refine sum_z fun j hj=>if_neg fun x=>?_
 have:=(hM.h j hj).c1
 omega
theorem sU_6 {Y:Yd} (hC:okCl Y.c) (hM:okMs Y.c.n Y.m) {q:Nat} {B:Nat→Bool}:sU B (ctQ Y q) 6=sU B (ctQ Y q) Y.c.n:=by
 have hb:=hC.b
 have:∀ d,Y.c.n+d≤6→sU B (ctQ Y q) (Y.c.n+d)=sU B (ctQ Y q) Y.c.n:=by
  intro d
  induction d with
  | zero=>intro _; rfl
  | succ d ih =>
   intro h
   have i:=ih (by omega)
   show sU B (ctQ Y q) (Y.c.n+d)+(bif B (Y.c.n+d) then ctQ Y q (Y.c.n+d) else 0)=_
   rw [i,ct_0 hM (by omega)]
   cases B (Y.c.n+d) <;> simp
 have:=this (6 - Y.c.n) (by omega)
 rwa [show Y.c.n+(6 - Y.c.n)=6 by omega] at this
theorem ca_rc (Y:Yd) (a:Int) (T:Tn):caE Y a T=rcE Y a T∧(caP Y a T↔rcP Y a T):=by
 have ee:caE Y a T=rcE Y a T:=by
  unfold caE rcE
  rw [dr_rd]
  unfold rdE
  by_cases h0:stE Y=0
  ·rw [if_pos h0,if_pos h0]
   by_cases h1:0≤a∧a≤(dn Y.m Y.m.n:Int) - 1
   ·rw [if_pos h1,if_pos rfl]
    by_cases h2:T.n=Y.c.n
    ·rw [if_pos h2,if_pos ⟨h1,h2⟩]
    ·rw [if_neg h2,if_neg fun x=>h2 x.2]
   ·rw [if_neg h1,if_neg (by omega),if_neg fun x=>h1 x.1]
  ·rw [if_neg h0,if_neg h0,if_neg h0]
 refine ⟨ee,?_⟩
 by_cases hc:¬ caE Y a T=0
 ·exact ⟨fun x=>absurd x.e hc,fun x=>absurd (ee.trans x.e) hc⟩
 have hc:=Classical.not_not.1 hc
 have hr:rcE Y a T=0:=ee.symm.trans hc
 obtain ⟨hd,hn⟩:drE Y a a=0∧T.n=Y.c.n:=by
  unfold caE at hc
  split at hc
  ·split at hc
   ·exact ⟨by assumption,by assumption⟩
   ·omega
  ·contradiction
 have h0:stE Y=0∧0≤a∧a<dn Y.m Y.m.n:=by
  have:=dr_rd Y a
  rw [hd] at this
  unfold rdE at this
  split at this
  ·split at this
   ·exact ⟨by assumption,by omega⟩
   ·omega
  ·omega
 obtain ⟨⟨hC,hM⟩,hO,hN⟩:=st_ok0 h0.1
 have hP:=ly_of hC hM
 have hb:=hC.b
 obtain ⟨A,rfl⟩:=Int.eq_ofNat_of_zero_le h0.2.1
 have hA:A<dn Y.m Y.m.n:=by omega
 have hl:dwL Y A=poM Y.m (drS Y A A) (lnJ Y.m):=by unfold dwL; rw [if_pos hd,ln_is]; rfl
 have hs:drS Y A A=⟨ds Y.m A Y.m.n,ds Y.m ((A:Int)+1) Y.m.n⟩:=drS_y hd
 have cm:∀ k,k<lnJ Y.m→cmT (drS Y A A) (lyF Y.m k).st=oJ Y A k:=fun k hk=>by
  rw [hs]; exact (oJ_ov hM hP hO hA (by rw [ln_is] at hk; exact hk)).symm
 have at0:∀ k,k<lnJ Y.m→∀ i,i<6→(lyF Y.m k).at i=ctQ Y k i:=fun k hk i hi=>(co_inv (M:=Y.m) hi (fun k hk=>(hM.h k hk).c0) Y.m.n (Nat.le_refl _)).1 k (by rw [ln_is] at hk; exact hk)
 have ctn:∀ q i,0≤ctQ Y q i:=fun q i=>(co_bd (o:=q) (i:=i) hM (k:=Y.m.n) (Nat.le_refl _)).1
 have ojn:∀ q,0≤oJ Y A q:=fun q=>(oJ_bd hC hM hA).1
 have sum:(drS Y A A).hi - (drS Y A A).lo=sumJ (fun q=>oJ Y A q) (lnJ Y.m):=by
  have e:=(en_sum hd).1
  have g:=po_G' (M:=Y.m) (s:=drS Y A A) (fun p=>p.tn) (lnJ Y.m) fun k hk _=>rfl
  rw [← e]
  show sumJ (fun i=>((dwL Y A).getD i zP).tn) (dwL Y A).length=_
  rw [hl,g]
  exact s_cg fun k hk=>cm k hk
 have p63:(2:Int) ^ T.n<2 ^ 63:=by
  have:T.n=0∨T.n=1∨T.n=2∨T.n=3∨T.n=4∨T.n=5∨T.n=6:=by omega
  rcases this with h | h | h | h | h | h | h <;> rw [h] <;> decide
 have ro:∀ (S:Int) (B:Nat→Bool),0≤S→S<2 ^ T.n→(∀ i,i<Y.c.n→S.toNat.testBit i=B i)→roS (dwP Y A) S=fcU (ctQ Y) (fun q=>oJ Y A q) Y.c.n (lnJ Y.m) B:=fun S B s0 s1 hB=>by
  have ly:∀ k,k<lnJ Y.m→asS (lyT (lyF Y.m k)) S=sU B (ctQ Y k) Y.c.n:=fun k hk=>by
   have z:∀ i,i<6→S.toNat.testBit i=bsB S i:=fun i _=>rfl
   rw [as_U (B:=bsB S) s0 (by omega) (m:=6) rfl z]
   have e:sU (bsB S) (lyT (lyF Y.m k)).f 6=sU (bsB S) (ctQ Y k) 6:=s_cg fun i hi=>by
    show (bif bsB S i then (lyF Y.m k).at i else 0)=_
    rw [at0 k hk i hi]
   rw [e,sU_6 hC hM]
   exact s_cg fun i hi=>by show (bif S.toNat.testBit i then _ else _)=_; rw [hB i hi]
  unfold roS roJ dwP
  show sumJ (fun i=>min ((dwL Y A).getD i zP).tn (asS (lyT ((dwL Y A).getD i zP).l) S)) (dwL Y A).length=_
  rw [hl,po_G' (M:=Y.m) (s:=drS Y A A) (fun p=>min p.tn (asS (lyT p.l) S)) (lnJ Y.m) fun k hk _=>by
   show min 0 (asS (lyT (lyF Y.m k)) S)=0
   rw [ly k hk]
   have:=u_nn (n:=Y.c.n) (S:=B) (f:=ctQ Y k) fun i _=>ctn k i
   omega]
  unfold fcU
  exact s_cg fun k hk=>by
   show min (cmT _ _) (asS (lyT (lyF Y.m k)) S)=_
   rw [cm k hk,ly k hk]
 constructor
 ·intro h
  have hu:=h.u
  rw [sum] at hu
  have fi:=fr_inv (T:=T) (by omega) h.f
  have ha:HaU (ctQ Y) (fun q=>oJ Y A q) T.f Y.c.n (lnJ Y.m):=⟨fun q _ i _=>ctn q i,fun q _=>ojn q,fun i hi=>(hu.h.h i (by omega)).1,by rw [← hn]; exact hu.e.symm,fun B=>by
   obtain ⟨s,s1,s2⟩:=bits B Y.c.n
   have sb:((s:Nat):Int)<2 ^ T.n:=by rw [hn]; exact_mod_cast s1
   have r:=fi s (by omega) sb
   rw [ro s B (by omega) sb (fun i hi=>by rw [Int.toNat_natCast]; exact s2 i hi),as_U (B:=B) (by omega) (by omega) hn (fun i hi=>by rw [Int.toNat_natCast]; exact s2 i hi)] at r
   exact r⟩
  have nn:=s_nn ha.ht
  obtain ⟨N,hN⟩:=Int.eq_ofNat_of_zero_le nn
  obtain ⟨x,x1,x2,x3⟩:=hall (ct:=ctQ Y) N ha hN
  refine ⟨hr,?_⟩
  rw [hn,Int.toNat_natCast]
  exact dv_of (lnJ Y.m) 0 (x:=x) (fun q hq i hi=>by rw [Nat.zero_add]; exact x1 q hq i hi) (fun q hq=>by rw [Nat.zero_add]; exact x2 q hq) fun i hi=>by rw [x3 i hi]; exact s_cg fun q hq=>by rw [Nat.zero_add]
 ·intro h
  have hdv:=h.d
  rw [hn,Int.toNat_natCast] at hdv
  obtain ⟨d1,d2,d3⟩:=of_dv (lnJ Y.m) 0 hdv
  have e0:∀ G:Nat→Int,sumJ (fun j=>G (0+j)) (lnJ Y.m)=sumJ G (lnJ Y.m):=fun G=>s_cg fun j hj=>by rw [Nat.zero_add]
  rw [e0 fun q=>oJ Y A q] at d2
  refine ⟨hc,?_,fr_all (by omega) fun S s0 s1=>?_⟩
  ·rw [sum,← d2]
   refine ⟨⟨fun i hi=>⟨d1 i (by omega),?_⟩⟩,by rw [← hn]; rfl⟩
   have pre:∀ k,i<k→k≤Y.c.n→tsJ T i+T.f i≤sumJ T.f k:=by
    intro k
    induction k with
    | zero=>intro h; omega
    | succ k ih =>
     intro h1 h2
     have:=d1 k (by omega)
     show _≤sumJ T.f k+T.f k
     by_cases x:i=k
     ·subst x; exact Int.le_refl _
     ·have:=ih (by omega) (by omega); omega
   have:=pre Y.c.n (by omega) (Nat.le_refl _)
   omega
  ·have z:∀ i,i<Y.c.n→S.toNat.testBit i=bsB S i:=fun i _=>rfl
   rw [ro S (bsB S) s0 s1 z,as_U (B:=bsB S) s0 (by omega) hn z]
   have:=d3 (bsB S)
   rw [e0 fun q=>min (oJ Y A q) (sU (bsB S) (ctQ Y q) Y.c.n)] at this
   exact this
end Go.Proofs.Ytfiaadlgfjokjaa

namespace Go.Proofs.Ytfiaadlgfjokjaa
open Go Go.Lg
attribute [local irreducible] bodyH bodyZ funS
noncomputable def csB:CSpec:=ctrsF [rdC] (ctrs [lgC,awC,caC,rcC])
noncomputable def ptJ (l:List Pt) (k:Nat):Int:=sumJ (fun i=>(l.getD i zT).tn) k
noncomputable def bldG (Y:Yd) (a:Int) (T:Tn):Prop:=funH Try.prog csB noX (ictrs [])
 (oneL 0 (natH (fun k=>k≤(rdL Y a).length∧Y.c.n≤10∧Y.m.n≤36) (fun k=>(rdL Y a).length - k) 1 (fun k=>mkF 85 [(1,i6 a),(2,T.sv),(3,.ptr 0 0 0),(7,ptT (rdL Y a)),(8,i6 (rdE Y a)),(9,i6 (ptJ (rdL Y a) k)),(10,i6 k)]) (fun _=>mkX [vr 2 Y.sv]) fun _=>none)) noL 5 [Y.sv,i6 a,T.sv] (.bool true)
end Go.Proofs.Ytfiaadlgfjokjaa

set_option maxRecDepth 100000
namespace Go.Proofs.Ytfiaadlgfjokjaa
open Go Go.Lg
theorem bldG_vc (Y:Yd) (a:Int) (T:Tn):bldG Y a T=((0:Nat)<(1:Nat)∧tA Y∧tB Y∧tC Y∧tD Y∧((10:Int)<(↑Y.c.n:Int)∨(36:Int)<(↑Y.m.n:Int)→rE true∧True)∧(¬((10:Int)<(↑Y.c.n:Int)∨(36:Int)<(↑Y.m.n:Int))→((20:Int)<(↑T.1:Int)→rE true∧True)∧(¬(20:Int)<(↑T.1:Int)→(0:Nat)<(1:Nat)∧tA Y∧tB Y∧tC Y∧tD Y∧(Y.c.1≤(1000:Nat)∧Y.m.1≤(1000:Nat))∧(∃ (z:Nat),(z≤(rdL Y a).length∧Y.c.1≤(10:Nat)∧Y.m.1≤(36:Nat))∧a=a∧T.1=T.1∧(∀ (i:Nat),i<T.1→rE ((i6 (T.f i)).den)∧True)∧rE (0:Nat)∧rE (0:Nat)∧(rdL Y a).length=(rdL Y a).length∧(∀ (i:Nat),i<(rdL Y a).length→((rdL Y a).getD i zT).sv.den=((rdL Y a).getD i zT).sv.den∧True∧True∧True)∧rdE Y a=rdE Y a∧(0:Int)=ptJ (rdL Y a) z∧(0:Int)=(↑z:Int)∧rE Y.c.1∧(∀ (i:Nat),i<Y.c.1→rE ((Y.c.f i).sv.den)∧True∧True∧True∧True∧True∧True∧True∧True∧True)∧rE Y.m.1∧(∀ (i:Nat),i<Y.m.1→rE ((Y.m.f i).sv.den)∧True∧True∧True∧True)∧True)∧∀ (z:Nat),z≤(rdL Y a).length∧Y.c.1≤(10:Nat)∧Y.m.1≤(36:Nat)→((↑z:Int)<(↑(rdL Y a).length:Int)→(0:Int)≤(↑z:Int)∧(↑z:Int)<(↑(rdL Y a).length:Int)∧rI (ptJ (rdL Y a) z+((rdL Y a).getD (↑z:Int).toNat zT).2)∧rI ((↑z:Int)+(1:Int))∧∃ (z_1:Nat),(z_1≤(rdL Y a).length∧Y.c.1≤(10:Nat)∧Y.m.1≤(36:Nat))∧(rdL Y a).length - z_1<(rdL Y a).length - z∧a=a ∧
T.1=T.1∧(∀ (i:Nat),i<T.1→rE ((i6 (T.f i)).den)∧True)∧rE (0:Nat)∧rE (0:Nat)∧rE ((rdL Y a).length)∧(∀ (i:Nat),i<(rdL Y a).length→rE (((rdL Y a).getD i zT).sv.den)∧True∧True∧True)∧rE (rdE Y a)∧ptJ (rdL Y a) z+((rdL Y a).getD (↑z:Int).toNat zT).2=ptJ (rdL Y a) z_1∧(↑z:Int)+(1:Int)=(↑z_1:Int)∧rE Y.c.1∧(∀ (i:Nat),i<Y.c.1→rE ((Y.c.f i).sv.den)∧True∧True∧True∧True∧True∧True∧True∧True∧True)∧rE Y.m.1∧(∀ (i:Nat),i<Y.m.1→rE ((Y.m.f i).sv.den)∧True∧True∧True∧True)∧True)∧(¬(↑z:Int)<(↑(rdL Y a).length:Int)→(rdE Y a=(0:Int)→(0:Nat)<(1:Nat)∧((3:Int)<(↑Y.c.1:Int)→rE true∧True)∧(¬(3:Int)<(↑Y.c.1:Int)→((3:Int)<(↑(rdL Y a).length:Int)→rE true∧True)∧(¬(3:Int)<(↑(rdL Y a).length:Int)→((12:Int)<ptJ (rdL Y a) z→rE true∧True)∧(¬(12:Int)<ptJ (rdL Y a) z→(0:Nat)<(1:Nat)∧tA Y∧tB Y∧(∀ (i:Nat),i<T.1→True)∧tC Y∧tD Y∧∃ g0,(∀ (i:Nat),i<T.1→i6 (T.f i)=i6 (g0 i))∧(0:Nat)<(1:Nat)∧tA Y∧tB Y∧(∀ (i:Nat),i<T.1→True)∧tC Y∧tD Y∧(SV.lst (1:Nat) T.n fun i=>i6 (T.f i))=(tnOf T.n fun i=>i6 (T.f i)).sv∧((Y.c.1≤(1000:Nat)∧Y.m.1≤(1000:Nat))∧∀ (i:Nat),i<T.1→rg ((tnOf T.n fun i=>i6 (T.f i)).f i))∧((caP Y a (Tn.mk T.n g0)↔rcP Y a (tnOf T.n fun i=>i6 (T.f i)))→(caE Y a (Tn.mk T.n g0)=rcE Y a (tnOf T.n fun i=>i6 (T.f i))→rE true∧True) ∧
(¬caE Y a (Tn.mk T.n g0)=rcE Y a (tnOf T.n fun i=>i6 (T.f i))→false=true∧True))∧(¬(caP Y a (Tn.mk T.n g0)↔rcP Y a (tnOf T.n fun i=>i6 (T.f i)))→false=true∧True)))))∧(¬rdE Y a=(0:Int)→(0:Nat)<(1:Nat)∧tA Y∧tB Y∧(∀ (i:Nat),i<T.1→True)∧tC Y∧tD Y∧∃ g0,(∀ (i:Nat),i<T.1→i6 (T.f i)=i6 (g0 i))∧(0:Nat)<(1:Nat)∧tA Y∧tB Y∧(∀ (i:Nat),i<T.1→True)∧tC Y∧tD Y∧(SV.lst (1:Nat) T.n fun i=>i6 (T.f i))=(tnOf T.n fun i=>i6 (T.f i)).sv∧((Y.c.1≤(1000:Nat)∧Y.m.1≤(1000:Nat))∧∀ (i:Nat),i<T.1→rg ((tnOf T.n fun i=>i6 (T.f i)).f i))∧((caP Y a (Tn.mk T.n g0)↔rcP Y a (tnOf T.n fun i=>i6 (T.f i)))→(caE Y a (Tn.mk T.n g0)=rcE Y a (tnOf T.n fun i=>i6 (T.f i))→rE true∧True)∧(¬caE Y a (Tn.mk T.n g0)=rcE Y a (tnOf T.n fun i=>i6 (T.f i))→false=true∧True))∧(¬(caP Y a (Tn.mk T.n g0)↔rcP Y a (tnOf T.n fun i=>i6 (T.f i)))→false=true∧True)))))):=by kernel_rfl
end Go.Proofs.Ytfiaadlgfjokjaa

set_option maxRecDepth 100000
namespace Go.Proofs.Ytfiaadlgfjokjaa
open Go Go.Lg
attribute [local irreducible] funS bodyH bodyZ
theorem pt_in {g:Nat→Int} {B:Int} {K:Nat} (h:∀ k,k<K→g k≤B):∀ k,k≤K→∀ x ∈ prL g k,0<x.tn∧x.tn≤B
 | 0,_,x,hx=>by simp [prL] at hx
 | k+1,hk,x,hx=>by
  simp only [prL] at hx
  split at hx
  ·rcases List.mem_append.1 hx with y | y
   ·exact pt_in h k (by omega) x y
   ·simp at y; subst y; exact ⟨by assumption,h k (by omega)⟩
  ·exact pt_in h k (by omega) x hx
theorem gd_mem {l:List Pt} {d:Pt} {i:Nat} (h:i<l.length):l.getD i d ∈ l:=by
 rw [List.getD_eq_getElem?_getD,List.getElem?_eq_getElem h]; exact List.getElem_mem h
theorem rd_bd (Y:Yd) (a:Int):(rdL Y a).length≤32∧∀ i,i<(rdL Y a).length→0≤((rdL Y a).getD i zT).tn∧((rdL Y a).getD i zT).tn≤335544320:=by
 unfold rdL
 split
 ·rename_i h
  have h0:stE Y=0∧0≤a∧a≤(dn Y.m Y.m.n:Int) - 1:=by
   unfold rdE at h
   split at h
   ·split at h
    ·exact ⟨by assumption,by assumption⟩
    ·omega
   ·contradiction
  obtain ⟨⟨hC,hM⟩,hO,hN⟩:=st_ok0 h0.1
  have l:=pr_len (oJ Y a.toNat) (lnJ Y.m)
  have l2:=ln_le Y.m
  have l3:=hM.n
  refine ⟨by omega,fun i hi=>?_⟩
  have:=pt_in (g:=oJ Y a.toNat) (B:=335544320) (K:=lnJ Y.m) (fun k _=>(oJ_bd hC hM (by omega)).2) _ (Nat.le_refl _) _ (gd_mem (d:=zT) hi)
  omega
 ·exact ⟨by simp,fun i hi=>by simp at hi⟩
theorem bld_true {Y:Yd} {a:Int} {T:Tn} (ht:∀ i,i<T.n→rg (T.f i)):bldG Y a T:=by
 rw [bldG_vc]
 obtain ⟨c1,c2⟩:=ca_rc Y a T
 obtain ⟨b1,b2⟩:=rd_bd Y a
 have ps:∀ k,k≤(rdL Y a).length→0≤ptJ (rdL Y a) k∧ptJ (rdL Y a) k≤k*335544320:=by
  intro k
  induction k with
  | zero=>intro _; simp [ptJ,sumJ]
  | succ k ih =>
   intro hk
   have i:=ih (by omega)
   have j:=b2 k (by omega)
   have e:ptJ (rdL Y a) (k+1)=ptJ (rdL Y a) k+((rdL Y a).getD k zT).tn:=rfl
   rw [e]
   omega
 simp only [rI,rE,tA,tB,tC,tD,and_true,true_and,Nat.zero_lt_one,and_self,implies_true,Int.toNat_natCast,Classical.not_not,Nat.zero_add,Nat.add_zero,tn_et,tn_sv,Bool.false_eq_true,imp_false]
 have fin2:Y.c.n≤1000∧Y.m.n≤1000→∃ g0:Nat→Int,(∀ i,i<T.n→i6 (T.f i)=i6 (g0 i))∧((Y.c.n≤1000∧Y.m.n≤1000)∧∀ i,i<T.n→rg (T.f i))∧((caP Y a ⟨T.n,g0⟩↔rcP Y a T)→caE Y a ⟨T.n,g0⟩=rcE Y a T)∧(caP Y a ⟨T.n,g0⟩↔rcP Y a T):=fun h=>⟨T.f,fun _ _=>rfl,⟨h,ht⟩,fun _=>c1,c2⟩
 refine fun hl hT=>⟨⟨by omega,by omega⟩,⟨0,⟨Nat.zero_le _,by omega,by omega⟩,rfl,rfl⟩,fun z hz=>⟨fun hzl=>?_,fun hzl=>⟨fun he hc hp hs=>fin2 ⟨by omega,by omega⟩,fun he=>fin2 ⟨by omega,by omega⟩⟩⟩⟩
 have p:=ps z hz.1
 have b:=b2 z (by omega)
 exact ⟨by omega,hzl,by omega,by omega,z+1,⟨by omega,hz.2⟩,by omega,rfl,by omega⟩
end Go.Proofs.Ytfiaadlgfjokjaa
