import Derived.Test.YtmjbflifegmmnaaBiBiV
import Derived.Test.YtmjbflifegmmnaaPv
import Derived.Test.YtmjbflifegmmnaaPfPgPhPiPu
import Derived.Test.YtmjbflifegmmnaaBjBjVBkBlBoCa
set_option linter.unusedVariables false
set_option linter.unusedSimpArgs false
set_option maxRecDepth 100000
namespace Go.Proofs.Ytmjbflifegmmnaa
open Go Go.Lg
attribute [local irreducible] funS bodyH
def loB (p:Pl):(Nat→Int)→Nat→Int:=fun _ i=>p.f.lo i
def hiB (p:Pl):(Nat→Int)→Nat→Int:=fun _ i=>p.f.hi i
structure rgB (p:Pl) (x:Nat→Int):Prop where
 r:isP p p.f.n x
noncomputable def tqQ (p:Pl) (d:Nat) (x:Nat→Int):List (Nat→Int):=lsQ (loB p) (hiB p) (rgB p) p.f.n d x
noncomputable def tqU (p:Pl) (d:Nat) (x:Nat→Int) (k:Nat):List (Nat→Int):=lsU (loB p) (hiB p) (rgB p) p.f.n d x k
structure tqI (p:Pl) (d:Nat) (k:Nat):Prop where
 a:(k:Int)≤p.f.hi (p.f.n - (d+1)) - p.f.lo (p.f.n - (d+1))+1
noncomputable def tqM:FS→XS→Ms:=fun t X=>match sget 52 t 3,sget 52 t 2 with
 | .ptr a _ _,.sl b _ _=>[some a,some b]
 | _,_=>[]
noncomputable def tqN:FS→XS→Ms:=fun t X=>match sget 52 t 3,sget 52 t 2,sget 52 t 48 with
 | .ptr a _ _,.sl b _ _,.sl c _ _=>[some a,some b,some c]
 | _,_,_=>[]
noncomputable def tqF (q:Nat→Int) (n N:Nat) (v:Int):FS:=mkF 52 [(1,liN n q),(2,.sl 1 0 N),(3,.ptr 0 0 0),(7,i6 n),(8,i6 v)]
noncomputable def tqF2 (p:Pl) (q:Nat→Int) (n N:Nat) (v:Int):FS:=mkF 52 [(1,liN n q),(2,.sl 1 0 N),(3,.ptr 0 0 0),(7,i6 n),(8,i6 v),(42,p.sv),(48,.sl 2 0 (n+1)),(49,.sl 1 0 N)]
noncomputable def tqC (M:Nat):OCtr:=⟨32,2,1,fun j=>match j with
 | 1=>some 1
 | _=>none,fun args N h k=>match args with
 | [y,.lst 1 n b,.sl 0 0 x]=>∃ (p:Pl) (O:List (Nat→Int)) (q:Nat→Int),(y=p.sv∧x=N∧(∀ i,i<n→b i=i6 (q i))∧N=O.length∧(∀ i,i<N→h i=rowQ p.f.n O i)∧n≤p.f.n∧p.f.n - n≤M∧okP p∧(O ++ tqQ p (p.f.n - n) q).length≤1000000)∧k (O ++ tqQ p (p.f.n - n) q).length (rowQ p.f.n (O ++ tqQ p (p.f.n - n) q))
 | _=>False⟩
def loAt (p:Pl) (d:Nat):Int:=p.f.lo (p.f.n - (d+1))
def spL (p:Pl) (d:Nat):Nat:=(p.f.hi (p.f.n - (d+1)) - p.f.lo (p.f.n - (d+1))+1).toNat
theorem rdL (l:Int) (t:FS) (X:XS) (k:Nat→Prop) (h:(match sget 52 t 8 with
 | .int _ z=>k (z - l).toNat
 | _=>False)):∃ s,k s:=by
 split at h
 ·exact ⟨_,h⟩
 ·exact h.elim
noncomputable def tqL (p:Pl) (d:Nat) (O:List (Nat→Int)) (q:Nat→Int):Nat→Option HSpec :=
 twoL 0 { toLSpec:={ σ:=Nat,inv:=tqI p d,μ:=fun k=>spL p d - k,nr:=0,ms:=tqM,t:=fun k=>tqF q (p.f.n - (d+1)) (O ++ tqU p d q k).length (loAt p d+(k:Int)),X:=fun k=>mkX [vr 2 p.sv,rw' 1 (O ++ tqU p d q k).length (rowQ p.f.n (O ++ tqU p d q k))],rd:=fun _ _ k=>∃ z,k z,rdOK:=fun _ _ _ h=>h } } <|
 oneL 1009 { toLSpec:={ σ:=Nat,inv:=fun _=>True,μ:=fun k=>0,nr:=0,ms:=tqN,t:=fun k=>tqF2 p q (p.f.n - (d+1)) (O ++ tqU p d q k).length (loAt p d+(k:Int)),X:=fun k=>mkX [vr 2 p.sv,rw' 1 (O ++ tqU p d q k).length (rowQ p.f.n (O ++ tqU p d q k)),rw' 1 (p.f.n - (d+1)+1) fun j=>i6 (upN q (p.f.n - (d+1)) (loAt p d+(k:Int)) j)],rd:=fun _ _ k=>∃ z,k z,rdOK:=fun _ _ _ h=>h },D:=[(0,0)],E:=[(3,2),(6,2)],par:=some ⟨fun t _ k=>(match sget 52 t 8 with | .int _ z=>k (z - loAt p d).toNat | _=>False),fun t X k h=>rdL (loAt p d) t X k h⟩,kinv:=fun y z=>z=y }
noncomputable def tq0G (p:Pl) (O:List (Nat→Int)) (q:Nat→Int):Prop:=funO Try.prog (ctrs [isC]) noX (ictrs []) (octrs []) noL noL 32 [p.sv,liN p.f.n q,.sl 0 0 O.length] 1 O.length (rowQ p.f.n O) (O ++ tqQ p 0 q).length (rowQ p.f.n (O ++ tqQ p 0 q))
noncomputable def tqG (M:Nat) (p:Pl) (d:Nat) (O:List (Nat→Int)) (q:Nat→Int):Prop:=funO Try.prog (ctrs [isC]) noX (ictrs []) (octrs [tqC M]) (tqL p d O q) noL 32 [p.sv,liN (p.f.n - (d+1)) q,.sl 0 0 O.length] 1 O.length (rowQ p.f.n O) (O ++ tqQ p (d+1) q).length (rowQ p.f.n (O ++ tqQ p (d+1) q))
end Go.Proofs.Ytmjbflifegmmnaa

set_option maxRecDepth 100000
namespace Go.Proofs.Ytmjbflifegmmnaa
open Go Go.Lg
theorem tq0G_vc (p:Pl) (O:List (Nat→Int)) (q:Nat→Int):tq0G p O q =
((0:Nat)<(1:Nat)∧(rE (↑p.f.1:Int)→(0:Nat)<(1:Nat)∧(∀ (i:Nat),i<p.f.1→True∧True∧True∧True∧True)∧(∀ (i:Nat),i<p.f.1→True)∧SV.agg [SV.int IntKind.i64 p.k,SV.lst (4:Nat) p.f.n p.f.el]=(pOf (SV.agg [SV.int IntKind.i64 p.k,SV.lst (4:Nat) p.f.n p.f.el])).sv∧((SV.lst (1:Nat) p.f.n fun k=>i6 (q k))=liN p.f.n fun i=>prI (i6 (q i)))∧okG (pOf (SV.agg [SV.int IntKind.i64 p.k,SV.lst (4:Nat) p.f.n p.f.el]))∧((isP (pOf (SV.agg [SV.int IntKind.i64 p.k,SV.lst (4:Nat) p.f.n p.f.el])) p.f.n fun i=>prI (i6 (q i)))→True∧(∀ (i:Nat),i<(1:Nat)→rE true)∧rE (0:Nat)∧rE O.length∧O.length+(1:Nat)≤(4611686018427387904:Nat)∧(O.length+(1:Nat))*(24:Nat)≤(140737488355328:Nat)∧O.length+(1:Nat)≤(4611686018427387904:Nat)∧(∀ (i:Nat),i<(O ++ tqQ p (0:Nat) q).length→∀ (i:Nat),i<p.f.1 →
True)∧rE (0:Nat)∧O.length+(1:Nat)=(O ++ tqQ p (0:Nat) q).length∧(rowsK (Try.prog.cellsOf (27:Nat)) (O.length+(1:Nat)) (appP O.length (1:Nat) (rowO (1:Nat) O.length (rowQ p.f.n O)).f (chainF [SV.lst (1:Nat) p.f.1 fun k=>i6 (q k)]))).f=appP O.length (1:Nat) (rowO (1:Nat) O.length (rowQ p.f.n O)).f (chainF [SV.lst (1:Nat) p.f.1 fun k=>i6 (q k)])∧rE (O.length+(1:Nat))∧O.length+(1:Nat)≤(4611686018427387904:Nat)∧(O ++ tqQ p (0:Nat) q).length=O.length+(1:Nat)∧(∀ (i:Nat),i<O.length→rE (1:Nat)∧rE p.f.1∧(∀ (i_1:Nat),i_1<p.f.1→(i6 (O.getD i zF i_1)).den=(i6 ((O ++ tqQ p (0:Nat) q).getD i zF i_1)).den∧True)∧True)∧(∀ (i:Nat),i<(1:Nat)→rE (1:Nat)∧rE p.f.1∧(∀ (i_1:Nat),i_1<p.f.1→(i6 (q i_1)).den=(i6 ((O ++ tqQ p (0:Nat) q).getD (O.length+i) zF i_1)).den∧True)∧True)∧True)
∧ ((¬isP (pOf (SV.agg [SV.int IntKind.i64 p.k,SV.lst (4:Nat) p.f.n p.f.el])) p.f.n fun i=>prI (i6 (q i)))→(∀ (i:Nat),i<(O ++ tqQ p (0:Nat) q).length→∀ (i:Nat),i<p.f.1→True)∧rE (0:Nat)∧O.length=(O ++ tqQ p (0:Nat) q).length∧(O ++ tqQ p (0:Nat) q).length=O.length∧(∀ (i:Nat),i<(O ++ tqQ p (0:Nat) q).length→rE (1:Nat)∧rE p.f.1∧(∀ (i_1:Nat),i_1<p.f.1→(i6 (O.getD i zF i_1)).den=(i6 ((O ++ tqQ p (0:Nat) q).getD i zF i_1)).den∧True)∧True)∧True))∧(¬(↑p.f.1:Int)=(↑p.f.1:Int)→(0:Nat)<(1:Nat)∧(0:Int)≤(↑p.f.1:Int)∧(↑p.f.1:Int)<(↑p.f.1:Int)∧False)):=by kernel_rfl
theorem tqG_vc (M:Nat) (p:Pl) (d:Nat) (O:List (Nat→Int)) (q:Nat→Int):tqG M p d O q =
((0:Nat)<(1:Nat)∧((↑(p.f.1 - (d+(1:Nat))):Int)=(↑p.f.1:Int)→(0:Nat)<(1:Nat)∧(∀ (i:Nat),i<p.f.1→True∧True∧True∧True∧True)∧(∀ (i:Nat),i<p.f.1 - (d+(1:Nat))→True)∧SV.agg [SV.int IntKind.i64 p.k,SV.lst (4:Nat) p.f.n p.f.el]=(pOf (SV.agg [SV.int IntKind.i64 p.k,SV.lst (4:Nat) p.f.n p.f.el])).sv∧((SV.lst (1:Nat) (p.f.n - (d+(1:Nat))) fun k=>i6 (q k))=liN (p.f.n - (d+(1:Nat))) fun i=>prI (i6 (q i)))∧okG (pOf (SV.agg [SV.int IntKind.i64 p.k,SV.lst (4:Nat) p.f.n p.f.el]))∧((isP (pOf (SV.agg [SV.int IntKind.i64 p.k,SV.lst (4:Nat) p.f.n p.f.el])) (p.f.n - (d+(1:Nat))) fun i=>prI (i6 (q i)))→True∧(∀ (i:Nat),i<(1:Nat)→rE true)∧rE (0:Nat)∧rE O.length∧O.length+(1:Nat)≤(4611686018427387904:Nat)∧(O.length+(1:Nat))*(24:Nat)≤(140737488355328:Nat)∧O.length+(1 :
Nat)≤(4611686018427387904:Nat)∧(∀ (i:Nat),i<(O ++ tqQ p (d+(1:Nat)) q).length→∀ (i:Nat),i<p.f.1→True)∧rE (0:Nat)∧O.length+(1:Nat)=(O ++ tqQ p (d+(1:Nat)) q).length∧(rowsK (Try.prog.cellsOf (27:Nat)) (O.length+(1:Nat)) (appP O.length (1:Nat) (rowO (1:Nat) O.length (rowQ p.f.n O)).f (chainF [SV.lst (1:Nat) (p.f.1 - (d+(1:Nat))) fun k=>i6 (q k)]))).f=appP O.length (1:Nat) (rowO (1:Nat) O.length (rowQ p.f.n O)).f (chainF [SV.lst (1:Nat) (p.f.1 - (d+(1:Nat))) fun k=>i6 (q k)])∧rE (O.length+(1:Nat))∧O.length+(1:Nat)≤(4611686018427387904:Nat)∧(O ++ tqQ p (d+(1:Nat)) q).length=O.length+(1:Nat)∧(∀ (i:Nat),i<O.length→rE (1:Nat)∧rE p.f.1∧(∀ (i_1:Nat),i_1<p.f.1→(i6 (O.getD i zF i_1)).den=(i6 ((O ++ tqQ p (d+(1:Nat)) q).getD i zF i_1)).den∧True)∧True)∧(∀ (i:Nat),
i<(1:Nat)→rE (1:Nat)∧p.f.1 - (d+(1:Nat))=p.f.1∧(∀ (i_1:Nat),i_1<p.f.1→(i6 (q i_1)).den=(i6 ((O ++ tqQ p (d+(1:Nat)) q).getD (O.length+i) zF i_1)).den∧True)∧True)∧True)∧((¬isP (pOf (SV.agg [SV.int IntKind.i64 p.k,SV.lst (4:Nat) p.f.n p.f.el])) (p.f.n - (d+(1:Nat))) fun i=>prI (i6 (q i)))→(∀ (i:Nat),i<(O ++ tqQ p (d+(1:Nat)) q).length→∀ (i:Nat),i<p.f.1→True)∧rE (0:Nat)∧O.length=(O ++ tqQ p (d+(1:Nat)) q).length∧(O ++ tqQ p (d+(1:Nat)) q).length=O.length∧(∀ (i:Nat),i<(O ++ tqQ p (d+(1:Nat)) q).length→rE (1:Nat)∧rE p.f.1∧(∀ (i_1:Nat),i_1<p.f.1→(i6 (O.getD i zF i_1)).den=(i6 ((O ++ tqQ p (d+(1:Nat)) q).getD i zF i_1)).den∧True)∧True)∧True))∧(¬(↑(p.f.1 - (d+(1:Nat))):Int)=(↑p.f.1:Int)→(0:Nat)<(1:Nat)∧(0:Int)≤(↑(p.f.1 - (d+(1:Nat))) :
Int)∧(↑(p.f.1 - (d+(1:Nat))):Int)<(↑p.f.1:Int)∧(∃ (z:Nat),tqI p d z∧rE (p.f.1 - (d+(1:Nat)))∧(∀ (i:Nat),i<p.f.1 - (d+(1:Nat))→rE ((i6 (q i)).den)∧True)∧rE (0:Nat)∧O.length=(O ++ tqU p d q z).length∧rE (0:Nat)∧rE (0:Nat)∧rE (↑(p.f.1 - (d+(1:Nat))):Int)∧p.f.4 (↑(p.f.n - (d+(1:Nat))):Int).toNat=loAt p d+(↑z:Int)∧p.1=p.1∧rE p.f.1∧(∀ (i:Nat),i<p.f.1→rE ((p.f.el i).den)∧True∧True∧True∧True∧True)∧(O ++ tqU p d q z).length=O.length∧(∀ (i:Nat),i<(O ++ tqU p d q z).length→rE (1:Nat)∧rE p.f.1∧(∀ (i_1:Nat),i_1<p.f.1→(i6 (O.getD i zF i_1)).den=(i6 ((O ++ tqU p d q z).getD i zF i_1)).den∧True)∧True)∧True)∧∀ (z:Nat),tqI p d z→(0:Nat)<(1:Nat)∧(0:Int)≤(↑(p.f.1 - (d+(1:Nat))):Int)∧(↑(p.f.1 - (d+(1:Nat))):Int)<(↑p.f.1:Int)∧(loAt p d +
(↑z:Int)≤p.f.5 (↑(p.f.n - (d+(1:Nat))):Int).toNat→(True∧True∧(0:Nat)<(1:Nat)∧True∧True∧True∧True∧True∧True∧True∧True∧True∧(True∧True∧True∧True∧(∀ (i:Nat),i<p.f.1 - (d+(1:Nat))→rE true)∧rE (0:Nat)∧rE (0:Nat)∧(∀ (i:Nat),rE true)∧((0:Nat)+(p.f.1 - (d+(1:Nat))))*(8:Nat)≤(140737488355328:Nat)∧(0:Nat)+(p.f.1 - (d+(1:Nat)))≤(4611686018427387904:Nat)∧True∧True∧(∀ (i:Nat),i<(1:Nat)→rE true)∧rE (0:Nat)∧rE ((0:Nat)+(p.f.1 - (d+(1:Nat))))∧(∀ (i:Nat),rE true)∧((0:Nat)+(p.f.1 - (d+(1:Nat)))+(1:Nat))*(8:Nat)≤(140737488355328:Nat)∧(0:Nat)+(p.f.1 - (d+(1:Nat)))+(1:Nat)≤(4611686018427387904:Nat)∧∃ (z_1:Nat),(True∧z_1=(loAt p d+(↑z:Int) - loAt p d).toNat)∧rE (p.f.1 - (d+(1:Nat)))∧(∀ (i:Nat),i<p.f.1 - (d
+ (1:Nat))→rE ((i6 (q i)).den)∧True)∧rE (0:Nat)∧(O ++ tqU p d q z).length=(O ++ tqU p d q z_1).length∧rE (0:Nat)∧rE (0:Nat)∧rE (↑(p.f.1 - (d+(1:Nat))):Int)∧loAt p d+(↑z:Int)=loAt p d+(↑z_1:Int)∧p.1=p.1∧rE p.f.1∧(∀ (i:Nat),i<p.f.1→rE ((p.f.el i).den)∧True∧True∧True∧True∧True)∧rE (0:Nat)∧(0:Nat)+(p.f.1 - (d+(1:Nat)))+(1:Nat)=p.f.1 - (d+(1:Nat))+(1:Nat)∧rE (0:Nat)∧(O ++ tqU p d q z).length=(O ++ tqU p d q z_1).length∧p.1=p.1∧rE p.f.1∧(∀ (i:Nat),i<p.f.1→rE ((p.f.el i).den)∧True∧True∧True∧True∧True)∧(O ++ tqU p d q z_1).length=(O ++ tqU p d q z).length∧(∀ (i:Nat),i<(O ++ tqU p d q z_1).length→rE (1:Nat)∧rE p.f.1∧(∀ (i_1:Nat),i_1<p.f.1→(i6 ((O ++ tqU p d q z).getD i zF i_1)).den=(i6 ((O ++ tqU p d q z_1).getD i zF i_1)).den∧True)∧True)
∧ p.f.1 - (d+(1:Nat))+(1:Nat)=(0:Nat)+(p.f.1 - (d+(1:Nat)))+(1:Nat)∧(∀ (i:Nat),i<p.f.1 - (d+(1:Nat))+(1:Nat)→rE (1:Nat)∧(if i<(0:Nat)+(p.f.1 - (d+(1:Nat))) then if i<(0:Nat) then (0:Int) else q (i - (0:Nat)) else loAt p d+(↑z:Int))=upN q (p.f.1 - (d+(1:Nat))) (loAt p d+(↑z_1:Int)) i∧True)∧True)∧True)∧∀ (z_1:Nat),True∧z_1=(loAt p d+(↑z:Int) - loAt p d).toNat→rE (0:Nat)∧rE ((O ++ tqU p d q z_1).length)∧(∀ (i:Nat),i<(O ++ tqU p d q z_1).length→∀ (i:Nat),i<p.f.1→True)∧(∀ (i:Nat),i<p.f.1→True∧True∧True∧True∧True)∧(0:Nat)+(p.f.1 - (d+(1:Nat))+(1:Nat))≤p.f.1 - (d+(1:Nat))+(1:Nat)∧(∀ (i:Nat),i<p.f.1 - (d+(1:Nat))+(1:Nat)→rE (1:Nat)∧True)∧∃ p_1 O_1 q_1,(Lg.nilV ((tqC M).fn.ns (0:Nat)) (SV.agg [SV.int IntKind.i64
p.k,SV.lst (4:Nat) p.f.n p.f.el])=p_1.sv∧rE ((O ++ tqU p d q z_1).length)∧(∀ (i:Nat),i<p.f.1 - (d+(1:Nat))+(1:Nat)→i6 (upN q (p.f.n - (d+(1:Nat))) (loAt p d+(↑z_1:Int)) (i+(0:Nat)))=i6 (q_1 i))∧(O ++ tqU p d q z_1).length=O_1.length∧(∀ (i:Nat),i<(O ++ tqU p d q z_1).length→rowQ p.f.n (O ++ tqU p d q z_1) i=rowQ p_1.f.n O_1 i)∧p.f.1 - (d+(1:Nat))+(1:Nat)≤p_1.f.1∧p_1.f.1 - (p.f.1 - (d+(1:Nat))+(1:Nat))≤M∧okP p_1∧(O_1 ++ tqQ p_1 (p_1.f.n - (p.f.n - (d+(1:Nat))+(1:Nat))) q_1).length≤(1000000:Nat))∧rI (loAt p d+(↑z_1:Int)+(1:Int))∧∃ (z_2:Nat),tqI p d z_2∧spL p d - z_2<spL p d - z∧rE (p.f.1 - (d+(1:Nat)))∧(∀ (i:Nat),i<p.f.1 - (d+(1:Nat))→rE ((i6 (q i)).den)∧True)∧rE (0:Nat)∧(O_1 ++ tqQ p_1 (p_1.f.n - (p.f.n - (d+(1:Nat))+(1:Nat))) q_1).length=(O
++ tqU p d q z_2).length∧rE (0:Nat)∧rE (0:Nat)∧rE (↑(p.f.1 - (d+(1:Nat))):Int)∧loAt p d+(↑z_1:Int)+(1:Int)=loAt p d+(↑z_2:Int)∧p.1=p.1∧rE p.f.1∧(∀ (i:Nat),i<p.f.1→rE ((p.f.el i).den)∧True∧True∧True∧True∧True)∧(O ++ tqU p d q z_2).length=(O_1 ++ tqQ p_1 (p_1.f.n - (p.f.n - (d+(1:Nat))+(1:Nat))) q_1).length∧(∀ (i:Nat),i<(O ++ tqU p d q z_2).length→rE (1:Nat)∧p_1.f.1=p.f.1∧(∀ (i_1:Nat),i_1<p.f.1→(i6 ((O_1 ++ tqQ p_1 (p_1.f.n - (p.f.n - (d+(1:Nat))+(1:Nat))) q_1).getD i zF i_1)).den=(i6 ((O ++ tqU p d q z_2).getD i zF i_1)).den∧True)∧True)∧True)∧(¬loAt p d+(↑z:Int)≤p.f.5 (↑(p.f.n - (d+(1:Nat))):Int).toNat→(∀ (i:Nat),i<(O ++ tqQ p (d+(1:Nat)) q).length→∀ (i:Nat),i<p.f.1→True)∧rE (0:Nat)∧(O ++ tqU p d q z).length=(O ++ tqQ p (d+(1:Nat))
q).length∧(O ++ tqQ p (d+(1:Nat)) q).length=(O ++ tqU p d q z).length∧(∀ (i:Nat),i<(O ++ tqQ p (d+(1:Nat)) q).length→rE (1:Nat)∧rE p.f.1∧(∀ (i_1:Nat),i_1<p.f.1→(i6 ((O ++ tqU p d q z).getD i zF i_1)).den=(i6 ((O ++ tqQ p (d+(1:Nat)) q).getD i zF i_1)).den∧True)∧True)∧True))):=by kernel_rfl
end Go.Proofs.Ytmjbflifegmmnaa

set_option maxRecDepth 100000
namespace Go.Proofs.Ytmjbflifegmmnaa
open Go Go.Lg
attribute [local irreducible] funS bodyH
theorem prI_i (x:Int):prI (i6 x)=x:=rfl
theorem p_f3 (p:Pl):pOf (SV.agg [SV.int IntKind.i64 p.k,SV.lst (4:Nat) p.f.n p.f.el])=p:=rfl
theorem p_s3 (p:Pl):(SV.agg [SV.int IntKind.i64 p.k,SV.lst (4:Nat) p.f.n p.f.el])=p.sv:=rfl
theorem p_f4 (p:Pl):pOf p.sv=p:=rfl
theorem tq0_yes {p:Pl} {q:Nat→Int} (h:isP p p.f.n q):tqQ p 0 q=[q]:=by unfold tqQ lsQ; rw [if_pos ⟨h⟩]
theorem tq0_no {p:Pl} {q:Nat→Int} (h:¬ isP p p.f.n q):tqQ p 0 q=[]:=by unfold tqQ lsQ; rw [if_neg fun hh=>h hh.r]
theorem tq0_true {p:Pl} {O:List (Nat→Int)} {q:Nat→Int} (hP:okP p) (hl:(O ++ tqQ p 0 q).length≤1000000):tq0G p O q:=by
 rw [tq0G_vc]
 simp only [rI,rE,tt3,tt4,tt5,tt13,tt14,and_true,true_and,Nat.zero_lt_one,and_self,implies_true,Int.toNat_natCast,Nat.zero_add,Nat.add_zero,Nat.one_mul,Nat.mul_one,Classical.not_not,iff_self,Bool.false_eq_true,imp_false,and_imp,true_implies,forall_const,p_f3,p_s3,p_f4,prI_i,not_true,false_implies]
 rw [List.length_append] at hl
 refine ⟨rfl,ok_g hP,fun h=>?_,fun h=>?_⟩
 ·have h:isP p p.f.n q:=h
  rw [tq0_yes h] at hl ⊢
  have hl:O.length+1≤1000000:=hl
  refine ⟨by omega,by omega,by omega,by simp,rfl,by omega,by simp,fun i hi j hj=>?_,fun i hi j hj=>?_⟩
  ·rw [getD_lo hi]
  ·have:i=0:=by omega
   subst this
   rw [Nat.add_zero,getD_at]
 ·have h:¬ isP p p.f.n q:=h
  rw [tq0_no h,List.append_nil]
  exact ⟨rfl,rfl,fun i hi j hj=>rfl⟩
theorem tqG_true {M:Nat} {p:Pl} {d:Nat} {O:List (Nat→Int)} {q:Nat→Int} (hP:okP p) (hd:d+1≤p.f.n) (hM:d≤M) (hl:(O ++ tqQ p (d+1) q).length≤1000000):tqG M p d O q:=by
 rw [tqG_vc]
 simp only [rI,rE,tt3,tt4,tt5,tt13,tt14,and_true,true_and,Nat.zero_lt_one,and_self,implies_true,Int.toNat_natCast,Nat.zero_add,Nat.add_zero,Nat.one_mul,Nat.mul_one,Classical.not_not,iff_self,Bool.false_eq_true,imp_false,and_imp,true_implies,forall_const,p_f3,p_s3,p_f4,prI_i,not_true,false_implies]
 have hm:=hP.n
 have su:=hP.gas (p.f.n - (d+1)) (by omega)
 have eL:loAt p d=p.f.lo (p.f.n - (d+1)):=rfl
 have eP:spL p d=(p.f.hi (p.f.n - (d+1)) - p.f.lo (p.f.n - (d+1))+1).toNat:=rfl
 have ed:p.f.n - (p.f.n - (d+1)+1)=d:=by omega
 have eS:tqQ p (d+1) q=tqU p d q (spL p d):=by
  unfold tqQ tqU lsU spL
  simp only [lsQ,hiB,loB]
 rw [eS] at hl ⊢
 rw [List.length_append] at hl
 refine ⟨fun h=>by omega,fun _=>⟨by omega,by omega,⟨0,⟨by omega⟩,by simp [tqU,lsU_0],by simp [loAt],by simp [tqU,lsU_0],fun i hi j hj=>by simp [tqU,lsU_0]⟩,fun z hz=>⟨by omega,by omega,fun hle=>⟨⟨by omega,by omega,by omega,by omega,z,by omega,rfl,rfl,rfl,rfl,fun i hi j hj=>rfl,fun i hi=>?_⟩,?_⟩,fun hgt=>?_⟩⟩⟩
 ·unfold upN
  by_cases h:i<p.f.n - (d+1)
  ·rw [if_pos h,if_pos h,if_neg (by omega)]; rfl
  ·rw [if_neg h,if_neg h]
 ·intro z1 ez
  obtain rfl:z1=z:=by omega
  have hlen:=lsU_le (lo:=loB p) (hi:=hiB p) (F:=rgB p) (m:=p.f.n) (d:=d) (p:=q) (k:=z1+1) (l:=spL p d) (by omega)
  have e1:O ++ tqU p d q z1 ++ tqQ p d (upN q (p.f.n - (d+1)) (loAt p d+(z1:Int)))=O ++ tqU p d q (z1+1):=by
   unfold tqU tqQ
   rw [lsU_succ,List.append_assoc]
   rfl
  refine ⟨Nat.le_refl _,p,O ++ tqU p d q z1,upN q (p.f.n - (d+1)) (loAt p d+(z1:Int)),⟨rfl,fun i hi=>rfl,rfl,fun i hi=>rfl,by omega,by omega,hP,?_⟩,by omega,z1+1,⟨by omega⟩,by omega,?_,by omega,?_,?_⟩
  ·rw [ed,e1,List.length_append]; unfold tqU at *; omega
  ·rw [ed,e1]
  ·rw [ed,e1]
  ·rw [ed,e1]; exact fun i hi=>⟨rfl,fun j hj=>rfl⟩
 ·have hz':=hz.a
  have:z=spL p d:=by omega
  subst this
  exact ⟨rfl,rfl,fun i hi j hj=>rfl⟩
theorem is_cs:SoundS Try.prog (ctrs [isC]):=ctrs_sound (by intro y hy; simp at hy; subst hy; exact is_ok)
theorem tq_case {M:Nat} {ox:OX} (hox:SoundO Try.prog ox) (hstep:∀ {p:Pl} {d:Nat} {O:List (Nat→Int)} {q:Nat→Int},okP p→d+1≤p.f.n→d+1≤M→(O ++ tqQ p (d+1) q).length≤1000000→DoesO Try.prog 32 (SV.denL [p.sv,liN (p.f.n - (d+1)) q,.sl 0 0 O.length]) [denR (some (rowO 1 O.length (rowQ p.f.n O)))] fun w ρ'=>∃ j n1 h1,w=.sl j 0 n1∧ρ'[j]?=some (denR (some (rowO 1 n1 h1)))∧(∀ i,i<n1→pureS (h1 i))∧n1=(O ++ tqQ p (d+1) q).length∧h1=rowQ p.f.n (O ++ tqQ p (d+1) q))
  {args:List SV} {N:Nat} {h:Nat→SV} {k:Nat→(Nat→SV)→Prop} (hk:(tqC M).fn.c args N h k):∃ N' h',k N' h' ∧
  DoesO Try.prog 32 (SV.denL args) [denR (some (rowO 1 N h))] fun v ρ'=>∃ j n1 h1,v=.sl j 0 n1∧ρ'[j]?=some (denR (some (rowO 1 n1 h1)))∧(∀ i,i<n1→pureS (h1 i))∧n1=N'∧h1=h':=by
 simp only [tqC] at hk
 split at hk
 ·rename_i y n b x
  obtain ⟨p,O,q,⟨rfl,rfl,hb,rfl,hh,hn,hM,hP,hl⟩,hk⟩:=hk
  refine ⟨_,_,hk,?_⟩
  have ea:SV.denL [p.sv,SV.lst 1 n b,SV.sl 0 0 O.length]=SV.denL [p.sv,liN n q,SV.sl 0 0 O.length]:=by simp only [SV.denL,den_lst hb,liN]
  rw [ea,den_row hh]
  by_cases e:n=p.f.n
  ·subst e
   rw [Nat.sub_self] at hl ⊢
   exact funO_ok is_cs (fun Γ γ=>noX_sound) nil_ic (octrs_sound (l:=[]) (by simp)) mixed (tq0_true hP hl)
  ·obtain ⟨d,hd⟩:∃ d,p.f.n - n=d+1:=⟨p.f.n - n - 1,by omega⟩
   have en:n=p.f.n - (d+1):=by omega
   rw [hd] at hl hM ⊢
   subst en
   exact hstep hP (by omega) hM hl
 ·exact hk.elim
theorem tq_ok:∀ M,(tqC M).Ok Try.prog
 | 0=>⟨by kernel_rfl,fun args N h k hk=>tq_case (ox:=octrs []) (octrs_sound (by simp)) (fun _ _ h _=>absurd h (by omega)) hk⟩
 | M+1=>⟨by kernel_rfl,fun args N h k hk=>tq_case (ox:=octrs [tqC M]) (octrs_sound (by
   intro x hx
   simp at hx
   subst hx
   exact tq_ok M)) (fun hP hd hM hl=>funO_ok is_cs (fun Γ γ=>noX_sound) nil_ic (octrs_sound (by
   intro x hx
   simp at hx
   subst hx
   exact tq_ok M)) mixed (tqG_true hP hd (by omega) hl)) hk⟩
end Go.Proofs.Ytmjbflifegmmnaa

set_option maxRecDepth 100000
namespace Go.Proofs.Ytmjbflifegmmnaa
open Go Go.Lg
attribute [local irreducible] funS bodyH
noncomputable def tqO (p : Pl) : List (Nat → Int) := tqQ p p.f.n zF
structure lenB (p : Pl) : Prop where
  l : okP p → (tqO p).length ≤ 1000000
noncomputable def rtG (p : Pl) : Prop := funY Try.prog (ctrs [valC hPlant]) noX (ictrs []) (octrs [tqC 16]) noL noL 12 [p.sv] (.tup [liN (okN p) (truV p), i6 (chE p)])
noncomputable def rtC : Ctr := plC 12 fun p r k => match r with
  | [] => lenB p ∧ k (.tup [liN (okN p) (truV p), i6 (chE p)])
  | _ => False
noncomputable def mnQ (O : List (Nat → Int)) (i : Nat) : Nat → Int
  | 0 => O.getD 0 zF i
  | k + 1 => min (mnQ O i k) (O.getD k zF i)
noncomputable def mxQ (O : List (Nat → Int)) (i : Nat) : Nat → Int
  | 0 => O.getD 0 zF i
  | k + 1 => max (mxQ O i k) (O.getD k zF i)
noncomputable def spQ (p : Pl) (i : Nat) : SV := .agg [i6 (mnQ (tqO p) i (tqO p).length), i6 (mxQ (tqO p) i (tqO p).length)]
structure goI (p : Pl) (i : Nat) : Prop where
  a : i ≤ p.f.n
structure giI (p : Pl) (i k : Nat) : Prop where
  a : i < p.f.n
  b : k ≤ (tqO p).length
noncomputable def rgM (t : FS) : Ms := match sget 69 t 1, sget 69 t 4, sget 69 t 5 with
  | .ptr a _ _, .sl b _ _, .sl c _ _ => [some a, some b, some c]
  | .ptr a _ _, .sl b _ _, _ => [some a, some b]
  | _, _, _ => []
noncomputable def rgN (t : FS) : Ms := match sget 69 t 1, sget 69 t 4, sget 69 t 7, sget 69 t 5 with
  | .ptr a _ _, .sl b _ _, .ptr d _ _, .sl c _ _ => [some a, some b, some d, some c]
  | .ptr a _ _, .sl b _ _, .ptr d _ _, _ => [some a, some b, some d]
  | _, _, _, _ => []
theorem rdS (t : FS) (X : XS) {α : Type} (k : Bool × α → Prop) (h : (match sget 69 t 5 with
  | .sl _ _ _ => ∃ z, k (true, z)
  | _ => ∃ z, k (false, z))) : ∃ s, k s := by
  revert h
  cases sget 69 t 5 <;> exact fun h => h.elim fun z h => ⟨_, h⟩
theorem alT {α : Type} {k : Bool × α → Prop} (h : (∀ z, k (false, z)) ∧ ∀ z, k (true, z)) (z : Bool × α) : k z := by
  obtain ⟨b, z⟩ := z
  cases b
  · exact h.1 z
  · exact h.2 z
noncomputable def goH (p : Pl) : HSpec :=
  { toLSpec := { σ := Bool × Nat, inv := fun z => match z.1 with
                   | false => z.2 = 0
                   | true => 1 ≤ z.2 ∧ goI p z.2
                 μ := fun z => p.f.n - z.2
                 nr := 0
                 ms := fun t _ => rgM t
                 t := fun z => match z.1 with
                   | false => mkF 69 [(1, .ptr 0 0 0), (4, .sl 1 0 (tqO p).length), (5, nilV), (6, i6 z.2)]
                   | true => mkF 69 [(1, .ptr 0 0 0), (4, .sl 1 0 (tqO p).length), (5, .sl 2 0 z.2), (6, i6 z.2)]
                 X := fun z => match z.1 with
                   | false => mkX [vr 2 p.sv, rw' 1 (tqO p).length (rowQ p.f.n (tqO p))]
                   | true => mkX [vr 2 p.sv, rw' 1 (tqO p).length (rowQ p.f.n (tqO p)), rw' 2 z.2 (spQ p)]
                 rd := fun t _ k => match sget 69 t 5 with
                   | .sl _ _ _ => ∃ z, k (true, z)
                   | _ => ∃ z, k (false, z)
                 rdOK := fun t X k h => rdS t X k h }
    al := fun k => (∀ z, k (false, z)) ∧ ∀ z, k (true, z), alOK := fun k h z => alT h z }
noncomputable def sgV (p : Pl) (z : Nat × Nat) : SV := .agg [i6 (mnQ (tqO p) z.1 z.2), i6 (mxQ (tqO p) z.1 z.2)]
noncomputable def giH (p : Pl) : HSpec :=
  { toLSpec := { σ := Bool × (Nat × Nat), inv := fun z => match z.1 with
                   | false => z.2.1 = 0 ∧ giI p z.2.1 z.2.2
                   | true => 1 ≤ z.2.1 ∧ giI p z.2.1 z.2.2
                 μ := fun z => (tqO p).length - z.2.2
                 nr := 0
                 ms := fun t _ => rgN t
                 t := fun z => match z.1 with
                   | false => mkF 69 [(1, .ptr 0 0 0), (4, .sl 1 0 (tqO p).length), (5, nilV), (6, i6 z.2.1), (7, .ptr 2 0 0), (8, i6 z.2.2)]
                   | true => mkF 69 [(1, .ptr 0 0 0), (4, .sl 1 0 (tqO p).length), (5, .sl 3 0 z.2.1), (6, i6 z.2.1), (7, .ptr 2 0 0), (8, i6 z.2.2)]
                 X := fun z => match z.1 with
                   | false => mkX [vr 2 p.sv, rw' 1 (tqO p).length (rowQ p.f.n (tqO p)), vr 2 (sgV p z.2)]
                   | true => mkX [vr 2 p.sv, rw' 1 (tqO p).length (rowQ p.f.n (tqO p)), vr 2 (sgV p z.2), rw' 2 z.2.1 (spQ p)]
                 rd := fun t _ k => match sget 69 t 5 with
                   | .sl _ _ _ => ∃ z, k (true, z)
                   | _ => ∃ z, k (false, z)
                 rdOK := fun t X k h => rdS t X k h }
    al := fun k => (∀ z, k (false, z)) ∧ ∀ z, k (true, z), alOK := fun k h z => alT h z
    par := some ⟨fun t _ k => match sget 69 t 6 with
      | .int _ z => k z.toNat
      | _ => False, rdI⟩
    kinv := fun y z => z.2.1 = y }
noncomputable def rgG (p : Pl) : Prop := funY Try.prog (ctrs [valC hPlant]) noX (ictrs []) (octrs [tqC 16]) (twoL 0 (goH p) (oneL 2 (giH p))) noL 14 [p.sv] (.tup [spN (okN p) (tgE false p) (tgE true p), i6 (chE p)])
noncomputable def rgC : Ctr := plC 14 fun p r k => match r with
  | [] => lenB p ∧ k (.tup [spN (okN p) (tgE false p) (tgE true p), i6 (chE p)])
  | _ => False
noncomputable def mB (p : Pl) (b : Int) : Nat → Int
  | 0 => 1
  | i + 1 => mB p b i * min (b + 1) (p.f.hi i - p.f.lo i + 1)
structure lgI (p : Pl) (a b : Int) (i : Nat) : Prop where
  n : i ≤ p.f.n
  k : 0 < i → okP p
  m : ∀ j, j ≤ i → mB p b j ≤ b
  c : ¬ (a < p.f.n ∧ p.f.n ≤ 16) ∧ p.f.n ≤ 20
def lgP (p : Pl) (a b : Int) : Prop := ((a < p.f.n ∧ p.f.n ≤ 16) ∨ 20 < p.f.n) ∨ (okP p ∧ ∃ i, i < p.f.n ∧ b < mB p b (i + 1))
noncomputable def lgG (p : Pl) (a b : Int) : Prop := funH Try.prog (ctrs [valC hPlant]) noX (ictrs []) (oneL 0 (natH (lgI p a b) (fun i => p.f.n - i) 1 (fun i => mkF 61 [(1, i6 a), (2, i6 b), (3, .ptr 0 0 0), (7, i6 (mB p b i)), (8, i6 i)]) (fun _ => mkX [vr 2 p.sv]) fun _ => none)) noL 9 [p.sv, i6 a, i6 b] (.dec (lgP p a b) (Classical.propDecidable _))
noncomputable def lgC : Ctr := plC 9 fun p r k => match r with
  | [.int .i64 a, .int .i64 b] => (1 ≤ b ∧ b ≤ 100000) ∧ k (.dec (lgP p a b) (Classical.propDecidable _))
  | _ => False
end Go.Proofs.Ytmjbflifegmmnaa

set_option maxRecDepth 100000
namespace Go.Proofs.Ytmjbflifegmmnaa
open Go Go.Lg
theorem rtG_vc (p:Pl):rtG p =
((0:Nat)<(1:Nat)∧(∀ (i:Nat),i<p.f.1→True∧True∧True∧True∧True)∧SV.agg [SV.int IntKind.i64 p.k,SV.lst (4:Nat) p.f.n p.f.el]=(pOf (SV.agg [SV.int IntKind.i64 p.k,SV.lst (4:Nat) p.f.n p.f.el])).sv∧(¬okP (pOf (SV.agg [SV.int IntKind.i64 p.k,SV.lst (4:Nat) p.f.n p.f.el]))→(0:Nat)=okN p∧(1:Int)=chE p∧True)∧(¬¬okP (pOf (SV.agg [SV.int IntKind.i64 p.k,SV.lst (4:Nat) p.f.n p.f.el]))→(0:Nat)<(1:Nat)∧(∀ (i:Nat),i<p.f.1→True∧True∧True∧True∧True)∧∃ p_1 O q,(Lg.nilV ((tqC (16:Nat)).fn.ns (0:Nat)) (SV.agg [SV.int IntKind.i64 p.k,SV.lst (4:Nat) p.f.n p.f.el])=p_1.sv∧rE (0:Nat)∧(∀ (i:Nat),i<(0:Nat)→SV.any=i6 (q i))∧(0:Nat)=O.length∧(∀ (i:Nat),i<(0:Nat)→SV.any=rowQ p_1.f.n O i)∧(0:Nat)≤p_1.f.1∧p_1.f.1 - (0:Nat)≤(16:Nat)∧okP p_1∧(O ++ tqQ p_1 (p_1.f.n - (0 :
Nat)) q).length≤(1000000:Nat))∧((↑(O ++ tqQ p_1 (p_1.f.n - (0:Nat)) q).length:Int)=(0:Int)→(0:Nat)=okN p∧(6:Int)=chE p∧True)∧(¬(↑(O ++ tqQ p_1 (p_1.f.n - (0:Nat)) q).length:Int)=(0:Int)→(0:Int)≤(0:Int)∧(0:Int)<(↑(O ++ tqQ p_1 (p_1.f.n - (0:Nat)) q).length:Int)∧(0:Nat)+Int.toNat (0:Int)<(O ++ tqQ p_1 (p_1.f.n - (0:Nat)) q).length∧p_1.f.1=okN p∧(∀ (i:Nat),i<okN p→(i6 ((O ++ tqQ p_1 (p_1.f.n - (0:Nat)) q).getD ((0:Nat)+Int.toNat (0:Int)) zF i)).den=(i6 (truV p i)).den∧True)∧(0:Int)=chE p∧True))):=by kernel_rfl
theorem lgG_vc (p:Pl) (a:Int) (b:Int):lgG p a b =
((0:Nat)<(1:Nat)∧(a<(↑p.f.1:Int)→(0:Nat)<(1:Nat)∧((↑p.f.1:Int)≤(16:Int)→(rE true↔lgP p a b)∧True)∧(¬(↑p.f.1:Int)≤(16:Int)→(0:Nat)<(1:Nat)∧((20:Int)<(↑p.f.1:Int)→(rE true↔lgP p a b)∧True)∧(¬(20:Int)<(↑p.f.1:Int)→(∃ (z:Nat),lgI p a b z∧a=a∧b=b∧rE (0:Nat)∧rE (0:Nat)∧(1:Int)=mB p b z∧(0:Int)=(↑z:Int)∧p.1=p.1∧rE p.f.1∧(∀ (i:Nat),i<p.f.1→rE ((p.f.el i).den)∧True∧True∧True∧True∧True)∧True)∧∀ (z:Nat),lgI p a b z→(0:Nat)<(1:Nat)∧((↑z:Int)<(↑p.f.1:Int)→(0:Nat)<(1:Nat)∧(∀ (i:Nat),i<p.f.1→True∧True∧True∧True∧True)∧SV.agg [SV.int IntKind.i64 p.k,SV.lst (4:Nat) p.f.n p.f.el]=(pOf (SV.agg [SV.int IntKind.i64 p.k,SV.lst (4:Nat) p.f.n p.f.el])).sv∧(okP (pOf (SV.agg [SV.int IntKind.i64 p.k,SV.lst (4:Nat) p.f.n
p.f.el]))→rI (b+(1:Int))∧(0:Nat)<(1:Nat)∧(0:Int)≤(↑z:Int)∧(↑z:Int)<(↑p.f.1:Int)∧(0:Nat)<(1:Nat)∧(0:Int)≤(↑z:Int)∧(↑z:Int)<(↑p.f.1:Int)∧rI (p.f.5 (↑z:Int).toNat - p.f.4 (↑z:Int).toNat)∧rI (p.f.5 (↑z:Int).toNat - p.f.4 (↑z:Int).toNat+(1:Int))∧rI (mB p b z*min (b+(1:Int)) (p.f.5 (↑z:Int).toNat - p.f.4 (↑z:Int).toNat+(1:Int)))∧(b<mB p b z*min (b+(1:Int)) (p.f.5 (↑z:Int).toNat - p.f.4 (↑z:Int).toNat+(1:Int))→(rE true↔lgP p a b)∧True)∧(¬b<mB p b z*min (b+(1:Int)) (p.f.5 (↑z:Int).toNat - p.f.4 (↑z:Int).toNat+(1:Int))→rI ((↑z:Int)+(1:Int))∧∃ (z_1:Nat),lgI p a b z_1∧p.f.1 - z_1<p.f.1 - z∧a=a∧b=b∧rE (0:Nat)∧rE (0:Nat)∧mB p b z*min (b+(1:Int)) (p.f.5 (↑z:Int).toNat - p.f.4 (↑z:Int).toNat+(1:Int))=mB p b z_1∧(↑z:Int) +
(1:Int)=(↑z_1:Int)∧p.1=p.1∧rE p.f.1∧(∀ (i:Nat),i<p.f.1→rE ((p.f.el i).den)∧True∧True∧True∧True∧True)∧True))∧(¬okP (pOf (SV.agg [SV.int IntKind.i64 p.k,SV.lst (4:Nat) p.f.n p.f.el]))→(false=true↔lgP p a b)∧True))∧(¬(↑z:Int)<(↑p.f.1:Int)→(false=true↔lgP p a b)∧True))))∧(¬a<(↑p.f.1:Int)→(0:Nat)<(1:Nat)∧((20:Int)<(↑p.f.1:Int)→(rE true↔lgP p a b)∧True)∧(¬(20:Int)<(↑p.f.1:Int)→(∃ (z:Nat),lgI p a b z∧a=a∧b=b∧rE (0:Nat)∧rE (0:Nat)∧(1:Int)=mB p b z∧(0:Int)=(↑z:Int)∧p.1=p.1∧rE p.f.1∧(∀ (i:Nat),i<p.f.1→rE ((p.f.el i).den)∧True∧True∧True∧True∧True)∧True)∧∀ (z:Nat),lgI p a b z→(0:Nat)<(1:Nat)∧((↑z:Int)<(↑p.f.1:Int)→(0:Nat)<(1:Nat)∧(∀ (i:Nat),i<p.f.1→True∧True∧True∧True∧True)∧SV.agg [SV.int
IntKind.i64 p.k,SV.lst (4:Nat) p.f.n p.f.el]=(pOf (SV.agg [SV.int IntKind.i64 p.k,SV.lst (4:Nat) p.f.n p.f.el])).sv∧(okP (pOf (SV.agg [SV.int IntKind.i64 p.k,SV.lst (4:Nat) p.f.n p.f.el]))→rI (b+(1:Int))∧(0:Nat)<(1:Nat)∧(0:Int)≤(↑z:Int)∧(↑z:Int)<(↑p.f.1:Int)∧(0:Nat)<(1:Nat)∧(0:Int)≤(↑z:Int)∧(↑z:Int)<(↑p.f.1:Int)∧rI (p.f.5 (↑z:Int).toNat - p.f.4 (↑z:Int).toNat)∧rI (p.f.5 (↑z:Int).toNat - p.f.4 (↑z:Int).toNat+(1:Int))∧rI (mB p b z*min (b+(1:Int)) (p.f.5 (↑z:Int).toNat - p.f.4 (↑z:Int).toNat+(1:Int)))∧(b<mB p b z*min (b+(1:Int)) (p.f.5 (↑z:Int).toNat - p.f.4 (↑z:Int).toNat+(1:Int))→(rE true↔lgP p a b)∧True)∧(¬b<mB p b z*min (b+(1:Int)) (p.f.5 (↑z:Int).toNat - p.f.4 (↑z:Int).toNat+(1:Int))→rI ((↑z:Int)+(1:Int))∧∃ (z_1:Nat),lgI p a b z_1 ∧
p.f.1 - z_1<p.f.1 - z∧a=a∧b=b∧rE (0:Nat)∧rE (0:Nat)∧mB p b z*min (b+(1:Int)) (p.f.5 (↑z:Int).toNat - p.f.4 (↑z:Int).toNat+(1:Int))=mB p b z_1∧(↑z:Int)+(1:Int)=(↑z_1:Int)∧p.1=p.1∧rE p.f.1∧(∀ (i:Nat),i<p.f.1→rE ((p.f.el i).den)∧True∧True∧True∧True∧True)∧True))∧(¬okP (pOf (SV.agg [SV.int IntKind.i64 p.k,SV.lst (4:Nat) p.f.n p.f.el]))→(false=true↔lgP p a b)∧True))∧(¬(↑z:Int)<(↑p.f.1:Int)→(false=true↔lgP p a b)∧True)))):=by kernel_rfl
end Go.Proofs.Ytmjbflifegmmnaa

set_option maxRecDepth 100000
namespace Go.Proofs.Ytmjbflifegmmnaa
open Go Go.Lg
theorem rgG_vc (p:Pl):rgG p =
((0:Nat)<(1:Nat)∧(∀ (i:Nat),i<p.f.1→True∧True∧True∧True∧True)∧SV.agg [SV.int IntKind.i64 p.k,SV.lst (4:Nat) p.f.n p.f.el]=(pOf (SV.agg [SV.int IntKind.i64 p.k,SV.lst (4:Nat) p.f.n p.f.el])).sv∧(¬okP (pOf (SV.agg [SV.int IntKind.i64 p.k,SV.lst (4:Nat) p.f.n p.f.el]))→(0:Nat)=okN p∧(1:Int)=chE p∧True)∧(¬¬okP (pOf (SV.agg [SV.int IntKind.i64 p.k,SV.lst (4:Nat) p.f.n p.f.el]))→(0:Nat)<(1:Nat)∧(∀ (i:Nat),i<p.f.1→True∧True∧True∧True∧True)∧∃ p_1 O q,(Lg.nilV ((tqC (16:Nat)).fn.ns (0:Nat)) (SV.agg [SV.int IntKind.i64 p.k,SV.lst (4:Nat) p.f.n p.f.el])=p_1.sv∧rE (0:Nat)∧(∀ (i:Nat),i<(0:Nat)→SV.any=i6 (q i))∧(0:Nat)=O.length∧(∀ (i:Nat),i<(0:Nat)→SV.any=rowQ p_1.f.n O i)∧(0:Nat)≤p_1.f.1∧p_1.f.1 - (0:Nat)≤(16:Nat)∧okP p_1∧(O ++ tqQ p_1 (p_1.f.n - (0 :
Nat)) q).length≤(1000000:Nat))∧((↑(O ++ tqQ p_1 (p_1.f.n - (0:Nat)) q).length:Int)=(0:Int)→(0:Nat)=okN p∧(6:Int)=chE p∧True)∧(¬(↑(O ++ tqQ p_1 (p_1.f.n - (0:Nat)) q).length:Int)=(0:Int)→(∃ (z:Nat),z=(0:Nat)∧rE (0:Nat)∧rE (0:Nat)∧rE (0:Nat)∧(O ++ tqQ p_1 (p_1.f.n - (0:Nat)) q).length=(tqO p).length∧rE (Value.slice none (0:Nat) (0:Nat))∧(0:Int)=(↑z:Int)∧p.1=p.1∧rE p.f.1∧(∀ (i:Nat),i<p.f.1→rE ((p.f.el i).den)∧True∧True∧True∧True∧True)∧(tqO p).length=(O ++ tqQ p_1 (p_1.f.n - (0:Nat)) q).length∧(∀ (i:Nat),i<(tqO p).length→rE (1:Nat)∧p_1.f.1=p.f.1∧(∀ (i_1:Nat),i_1<p.f.1→(i6 ((O ++ tqQ p_1 (p_1.f.n - (0:Nat)) q).getD i zF i_1)).den=(i6 ((tqO p).getD i zF i_1)).den∧True)∧True)∧True)∧(∀ (z:Nat),z=(0:Nat)→(0:Nat)<(1:Nat)∧((↑z:Int) <
(↑p.f.1:Int)→(0:Int)≤(0:Int)∧(0:Int)<(↑(tqO p).length:Int)∧(0:Nat)+Int.toNat (0:Int)<(tqO p).length∧(0:Int)≤(↑z:Int)∧(↑z:Int)<(↑p.f.1:Int)∧(0:Int)≤(0:Int)∧(0:Int)<(↑(tqO p).length:Int)∧(0:Nat)+Int.toNat (0:Int)<(tqO p).length∧(0:Int)≤(↑z:Int)∧(↑z:Int)<(↑p.f.1:Int)∧(∃ (z_1:Nat × Nat),((z_1.1=(0:Nat)∧giI p z_1.fst z_1.snd)∧z_1.1=(↑z:Int).toNat)∧rE (0:Nat)∧rE (0:Nat)∧rE (0:Nat)∧rE ((tqO p).length)∧rE (Value.slice none (0:Nat) (0:Nat))∧(↑z:Int)=(↑z_1.1:Int)∧rE (0:Nat)∧rE (0:Nat)∧(0:Int)=(↑z_1.2:Int)∧p.1=p.1∧rE p.f.1∧(∀ (i:Nat),i<p.f.1→rE ((p.f.el i).den)∧True∧True∧True∧True∧True)∧rE ((tqO p).length)∧(∀ (i:Nat),i<(tqO p).length→rE (1:Nat)∧rE p.f.1∧(∀ (i_1:Nat),i_1<p.f.1→rE ((i6 ((tqO p).getD i zF
i_1)).den)∧True)∧True)∧(tqO p).getD ((0:Nat)+Int.toNat (0:Int)) zF (↑z:Int).toNat=mnQ (tqO p) z_1.1 z_1.2∧(tqO p).getD ((0:Nat)+Int.toNat (0:Int)) zF (↑z:Int).toNat=mxQ (tqO p) z_1.1 z_1.2∧True)∧(∀ (z_1:Nat × Nat),(z_1.1=(0:Nat)∧giI p z_1.fst z_1.snd)∧z_1.1=(↑z:Int).toNat→((↑z_1.2:Int)<(↑(tqO p).length:Int)→(0:Nat)<(1:Nat)∧(0:Int)≤(↑z_1.2:Int)∧(↑z_1.2:Int)<(↑(tqO p).length:Int)∧(0:Nat)+(↑z_1.2:Int).toNat<(tqO p).length∧(0:Int)≤(↑z_1.1:Int)∧(↑z_1.1:Int)<(↑p.f.1:Int)∧(0:Nat)<(1:Nat)∧(0:Int)≤(↑z_1.2:Int)∧(↑z_1.2:Int)<(↑(tqO p).length:Int)∧(0:Nat)+(↑z_1.2:Int).toNat<(tqO p).length∧(0:Int)≤(↑z_1.1:Int)∧(↑z_1.1:Int)<(↑p.f.1:Int)∧rI ((↑z_1.2:Int)+(1:Int))∧∃ (z_2:Nat × Nat),((z_2.1=(0:Nat)∧giI p z_2.fst z_2.snd)∧z_2.1=(↑z :
Int).toNat)∧(tqO p).length - z_2.2<(tqO p).length - z_1.2∧rE (0:Nat)∧rE (0:Nat)∧rE (0:Nat)∧rE ((tqO p).length)∧rE (Value.slice none (0:Nat) (0:Nat))∧(↑z_1.1:Int)=(↑z_2.1:Int)∧rE (0:Nat)∧rE (0:Nat)∧(↑z_1.2:Int)+(1:Int)=(↑z_2.2:Int)∧p.1=p.1∧rE p.f.1∧(∀ (i:Nat),i<p.f.1→rE ((p.f.el i).den)∧True∧True∧True∧True∧True)∧rE ((tqO p).length)∧(∀ (i:Nat),i<(tqO p).length→rE (1:Nat)∧rE p.f.1∧(∀ (i_1:Nat),i_1<p.f.1→rE ((i6 ((tqO p).getD i zF i_1)).den)∧True)∧True)∧min (mnQ (tqO p) z_1.1 z_1.2) ((tqO p).getD ((0:Nat)+(↑z_1.2:Int).toNat) zF (↑z_1.1:Int).toNat)=mnQ (tqO p) z_2.1 z_2.2∧max (mxQ (tqO p) z_1.1 z_1.2) ((tqO p).getD ((0:Nat)+(↑z_1.2:Int).toNat) zF (↑z_1.1:Int).toNat)=mxQ (tqO p) z_2.1 z_2.2∧True)∧(¬(↑z_1.2:Int)<(↑(tqO p).length:Int)→(0:Nat)<(1:Nat)
∧ True∧(∀ (i:Nat),i<(1:Nat)→rE true)∧(1:Nat)*(16:Nat)≤(140737488355328:Nat)∧(1:Nat)≤(4611686018427387904:Nat)∧rI ((↑z_1.1:Int)+(1:Int))∧∃ (z_2:Nat),((1:Nat)≤z_2∧goI p z_2)∧p.f.1 - z_2<p.f.1 - z∧rE (0:Nat)∧rE (0:Nat)∧rE (0:Nat)∧rE ((tqO p).length)∧rE (0:Nat)∧(1:Nat)=z_2∧(↑z_1.1:Int)+(1:Int)=(↑z_2:Int)∧p.1=p.1∧rE p.f.1∧(∀ (i:Nat),i<p.f.1→rE ((p.f.el i).den)∧True∧True∧True∧True∧True)∧rE ((tqO p).length)∧(∀ (i:Nat),i<(tqO p).length→rE (1:Nat)∧rE p.f.1∧(∀ (i_1:Nat),i_1<p.f.1→rE ((i6 ((tqO p).getD i zF i_1)).den)∧True)∧True)∧z_2=(1:Nat)∧(∀ (i:Nat),i<z_2→rE (2:Nat)∧mnQ (tqO p) z_1.1 z_1.2=mnQ (tqO p) i (tqO p).length∧mxQ (tqO p) z_1.1 z_1.2=mxQ (tqO p) i (tqO p).length∧True)∧True))∧∀ (z_1:Nat × Nat),((1:Nat)≤z_1.1 ∧
giI p z_1.fst z_1.snd)∧z_1.1=(↑z:Int).toNat→((↑z_1.2:Int)<(↑(tqO p).length:Int)→(0:Nat)<(1:Nat)∧(0:Int)≤(↑z_1.2:Int)∧(↑z_1.2:Int)<(↑(tqO p).length:Int)∧(0:Nat)+(↑z_1.2:Int).toNat<(tqO p).length∧(0:Int)≤(↑z_1.1:Int)∧(↑z_1.1:Int)<(↑p.f.1:Int)∧(0:Nat)<(1:Nat)∧(0:Int)≤(↑z_1.2:Int)∧(↑z_1.2:Int)<(↑(tqO p).length:Int)∧(0:Nat)+(↑z_1.2:Int).toNat<(tqO p).length∧(0:Int)≤(↑z_1.1:Int)∧(↑z_1.1:Int)<(↑p.f.1:Int)∧rI ((↑z_1.2:Int)+(1:Int))∧∃ (z_2:Nat × Nat),(((1:Nat)≤z_2.1∧giI p z_2.fst z_2.snd)∧z_2.1=(↑z:Int).toNat)∧(tqO p).length - z_2.2<(tqO p).length - z_1.2∧rE (0:Nat)∧rE (0:Nat)∧rE (0:Nat)∧rE ((tqO p).length)∧rE (0:Nat)∧z_1.1=z_2.1∧(↑z_1.1:Int)=(↑z_2.1:Int)∧rE (0:Nat)∧rE (0:Nat)∧(↑z_1.2:Int)+(1:Int)=(↑z_2.2:Int) ∧
p.1=p.1∧rE p.f.1∧(∀ (i:Nat),i<p.f.1→rE ((p.f.el i).den)∧True∧True∧True∧True∧True)∧rE ((tqO p).length)∧(∀ (i:Nat),i<(tqO p).length→rE (1:Nat)∧rE p.f.1∧(∀ (i_1:Nat),i_1<p.f.1→rE ((i6 ((tqO p).getD i zF i_1)).den)∧True)∧True)∧min (mnQ (tqO p) z_1.1 z_1.2) ((tqO p).getD ((0:Nat)+(↑z_1.2:Int).toNat) zF (↑z_1.1:Int).toNat)=mnQ (tqO p) z_2.1 z_2.2∧max (mxQ (tqO p) z_1.1 z_1.2) ((tqO p).getD ((0:Nat)+(↑z_1.2:Int).toNat) zF (↑z_1.1:Int).toNat)=mxQ (tqO p) z_2.1 z_2.2∧z_2.1=z_1.1∧(∀ (i:Nat),i<z_2.1→rE (2:Nat)∧rE (mnQ (tqO p) i (tqO p).length)∧rE (mxQ (tqO p) i (tqO p).length)∧True)∧True)∧(¬(↑z_1.2:Int)<(↑(tqO p).length:Int)→(0:Nat)<(1:Nat)∧True∧(∀ (i:Nat),i<(1:Nat)→rE true)∧rE (0:Nat)∧rE z_1.1∧(∀ (i:Nat),rE true)∧(z_1.1+(1:Nat))*(16:Nat) ≤
(140737488355328:Nat)∧z_1.1+(1:Nat)≤(4611686018427387904:Nat)∧rI ((↑z_1.1:Int)+(1:Int))∧∃ (z_2:Nat),((1:Nat)≤z_2∧goI p z_2)∧p.f.1 - z_2<p.f.1 - z∧rE (0:Nat)∧rE (0:Nat)∧rE (0:Nat)∧rE ((tqO p).length)∧rE (0:Nat)∧z_1.1+(1:Nat)=z_2∧(↑z_1.1:Int)+(1:Int)=(↑z_2:Int)∧p.1=p.1∧rE p.f.1∧(∀ (i:Nat),i<p.f.1→rE ((p.f.el i).den)∧True∧True∧True∧True∧True)∧rE ((tqO p).length)∧(∀ (i:Nat),i<(tqO p).length→rE (1:Nat)∧rE p.f.1∧(∀ (i_1:Nat),i_1<p.f.1→rE ((i6 ((tqO p).getD i zF i_1)).den)∧True)∧True)∧z_2=z_1.1+(1:Nat)∧(∀ (i:Nat),i<z_2→rE (2:Nat)∧(if i<z_1.1 then mnQ (tqO p) i (tqO p).length else mnQ (tqO p) z_1.1 z_1.2)=mnQ (tqO p) i (tqO p).length∧(if i<z_1.1 then mxQ (tqO p) i (tqO p).length else mxQ (tqO p) z_1.1 z_1.2)=mxQ (tqO p) i (tqO p).length ∧
True)∧True))∧(¬(↑z:Int)<(↑p.f.1:Int)→(0:Nat)=okN p∧(0:Int)=chE p∧True))∧∀ (z:Nat),(1:Nat)≤z∧goI p z→(0:Nat)<(1:Nat)∧((↑z:Int)<(↑p.f.1:Int)→(0:Int)≤(0:Int)∧(0:Int)<(↑(tqO p).length:Int)∧(0:Nat)+Int.toNat (0:Int)<(tqO p).length∧(0:Int)≤(↑z:Int)∧(↑z:Int)<(↑p.f.1:Int)∧(0:Int)≤(0:Int)∧(0:Int)<(↑(tqO p).length:Int)∧(0:Nat)+Int.toNat (0:Int)<(tqO p).length∧(0:Int)≤(↑z:Int)∧(↑z:Int)<(↑p.f.1:Int)∧(∃ (z_1:Nat × Nat),(((1:Nat)≤z_1.1∧giI p z_1.fst z_1.snd)∧z_1.1=(↑z:Int).toNat)∧rE (0:Nat)∧rE (0:Nat)∧rE (0:Nat)∧rE ((tqO p).length)∧rE (0:Nat)∧z=z_1.1∧(↑z:Int)=(↑z_1.1:Int)∧rE (0:Nat)∧rE (0:Nat)∧(0:Int)=(↑z_1.2:Int)∧p.1=p.1∧rE p.f.1∧(∀ (i:Nat),i<p.f.1→rE ((p.f.el i).den)∧True∧True∧True∧True
∧ True)∧rE ((tqO p).length)∧(∀ (i:Nat),i<(tqO p).length→rE (1:Nat)∧rE p.f.1∧(∀ (i_1:Nat),i_1<p.f.1→rE ((i6 ((tqO p).getD i zF i_1)).den)∧True)∧True)∧(tqO p).getD ((0:Nat)+Int.toNat (0:Int)) zF (↑z:Int).toNat=mnQ (tqO p) z_1.1 z_1.2∧(tqO p).getD ((0:Nat)+Int.toNat (0:Int)) zF (↑z:Int).toNat=mxQ (tqO p) z_1.1 z_1.2∧z_1.1=z∧(∀ (i:Nat),i<z_1.1→rE (2:Nat)∧rE (mnQ (tqO p) i (tqO p).length)∧rE (mxQ (tqO p) i (tqO p).length)∧True)∧True)∧(∀ (z_1:Nat × Nat),(z_1.1=(0:Nat)∧giI p z_1.fst z_1.snd)∧z_1.1=(↑z:Int).toNat→((↑z_1.2:Int)<(↑(tqO p).length:Int)→(0:Nat)<(1:Nat)∧(0:Int)≤(↑z_1.2:Int)∧(↑z_1.2:Int)<(↑(tqO p).length:Int)∧(0:Nat)+(↑z_1.2:Int).toNat<(tqO p).length∧(0:Int)≤(↑z_1.1:Int)∧(↑z_1.1:Int)<(↑p.f.1:Int)∧(0:Nat)<(1:Nat)∧(0:Int) ≤
(↑z_1.2:Int)∧(↑z_1.2:Int)<(↑(tqO p).length:Int)∧(0:Nat)+(↑z_1.2:Int).toNat<(tqO p).length∧(0:Int)≤(↑z_1.1:Int)∧(↑z_1.1:Int)<(↑p.f.1:Int)∧rI ((↑z_1.2:Int)+(1:Int))∧∃ (z_2:Nat × Nat),((z_2.1=(0:Nat)∧giI p z_2.fst z_2.snd)∧z_2.1=(↑z:Int).toNat)∧(tqO p).length - z_2.2<(tqO p).length - z_1.2∧rE (0:Nat)∧rE (0:Nat)∧rE (0:Nat)∧rE ((tqO p).length)∧rE (Value.slice none (0:Nat) (0:Nat))∧(↑z_1.1:Int)=(↑z_2.1:Int)∧rE (0:Nat)∧rE (0:Nat)∧(↑z_1.2:Int)+(1:Int)=(↑z_2.2:Int)∧p.1=p.1∧rE p.f.1∧(∀ (i:Nat),i<p.f.1→rE ((p.f.el i).den)∧True∧True∧True∧True∧True)∧rE ((tqO p).length)∧(∀ (i:Nat),i<(tqO p).length→rE (1:Nat)∧rE p.f.1∧(∀ (i_1:Nat),i_1<p.f.1→rE ((i6 ((tqO p).getD i zF i_1)).den)∧True)∧True)∧min (mnQ (tqO p) z_1.1 z_1.2) ((tqO p).getD ((0 :
Nat)+(↑z_1.2:Int).toNat) zF (↑z_1.1:Int).toNat)=mnQ (tqO p) z_2.1 z_2.2∧max (mxQ (tqO p) z_1.1 z_1.2) ((tqO p).getD ((0:Nat)+(↑z_1.2:Int).toNat) zF (↑z_1.1:Int).toNat)=mxQ (tqO p) z_2.1 z_2.2∧True)∧(¬(↑z_1.2:Int)<(↑(tqO p).length:Int)→(0:Nat)<(1:Nat)∧True∧(∀ (i:Nat),i<(1:Nat)→rE true)∧(1:Nat)*(16:Nat)≤(140737488355328:Nat)∧(1:Nat)≤(4611686018427387904:Nat)∧rI ((↑z_1.1:Int)+(1:Int))∧∃ (z_2:Nat),((1:Nat)≤z_2∧goI p z_2)∧p.f.1 - z_2<p.f.1 - z∧rE (0:Nat)∧rE (0:Nat)∧rE (0:Nat)∧rE ((tqO p).length)∧rE (0:Nat)∧(1:Nat)=z_2∧(↑z_1.1:Int)+(1:Int)=(↑z_2:Int)∧p.1=p.1∧rE p.f.1∧(∀ (i:Nat),i<p.f.1→rE ((p.f.el i).den)∧True∧True∧True∧True∧True)∧rE ((tqO p).length)∧(∀ (i:Nat),i<(tqO p).length→rE (1:Nat)∧rE p.f.1∧(∀ (i_1:Nat),i_1 <
p.f.1→rE ((i6 ((tqO p).getD i zF i_1)).den)∧True)∧True)∧z_2=(1:Nat)∧(∀ (i:Nat),i<z_2→rE (2:Nat)∧mnQ (tqO p) z_1.1 z_1.2=mnQ (tqO p) i (tqO p).length∧mxQ (tqO p) z_1.1 z_1.2=mxQ (tqO p) i (tqO p).length∧True)∧True))∧∀ (z_1:Nat × Nat),((1:Nat)≤z_1.1∧giI p z_1.fst z_1.snd)∧z_1.1=(↑z:Int).toNat→((↑z_1.2:Int)<(↑(tqO p).length:Int)→(0:Nat)<(1:Nat)∧(0:Int)≤(↑z_1.2:Int)∧(↑z_1.2:Int)<(↑(tqO p).length:Int)∧(0:Nat)+(↑z_1.2:Int).toNat<(tqO p).length∧(0:Int)≤(↑z_1.1:Int)∧(↑z_1.1:Int)<(↑p.f.1:Int)∧(0:Nat)<(1:Nat)∧(0:Int)≤(↑z_1.2:Int)∧(↑z_1.2:Int)<(↑(tqO p).length:Int)∧(0:Nat)+(↑z_1.2:Int).toNat<(tqO p).length∧(0:Int)≤(↑z_1.1:Int)∧(↑z_1.1:Int)<(↑p.f.1:Int)∧rI ((↑z_1.2:Int)+(1:Int))∧∃ (z_2:Nat × Nat),(((1:Nat)≤z_2.1∧giI p z_2.fst
z_2.snd)∧z_2.1=(↑z:Int).toNat)∧(tqO p).length - z_2.2<(tqO p).length - z_1.2∧rE (0:Nat)∧rE (0:Nat)∧rE (0:Nat)∧rE ((tqO p).length)∧rE (0:Nat)∧z_1.1=z_2.1∧(↑z_1.1:Int)=(↑z_2.1:Int)∧rE (0:Nat)∧rE (0:Nat)∧(↑z_1.2:Int)+(1:Int)=(↑z_2.2:Int)∧p.1=p.1∧rE p.f.1∧(∀ (i:Nat),i<p.f.1→rE ((p.f.el i).den)∧True∧True∧True∧True∧True)∧rE ((tqO p).length)∧(∀ (i:Nat),i<(tqO p).length→rE (1:Nat)∧rE p.f.1∧(∀ (i_1:Nat),i_1<p.f.1→rE ((i6 ((tqO p).getD i zF i_1)).den)∧True)∧True)∧min (mnQ (tqO p) z_1.1 z_1.2) ((tqO p).getD ((0:Nat)+(↑z_1.2:Int).toNat) zF (↑z_1.1:Int).toNat)=mnQ (tqO p) z_2.1 z_2.2∧max (mxQ (tqO p) z_1.1 z_1.2) ((tqO p).getD ((0:Nat)+(↑z_1.2:Int).toNat) zF (↑z_1.1:Int).toNat)=mxQ (tqO p) z_2.1 z_2.2∧z_2.1=z_1.1∧(∀ (i:Nat),i<z_2.1→rE (2:Nat)∧rE
(mnQ (tqO p) i (tqO p).length)∧rE (mxQ (tqO p) i (tqO p).length)∧True)∧True)∧(¬(↑z_1.2:Int)<(↑(tqO p).length:Int)→(0:Nat)<(1:Nat)∧True∧(∀ (i:Nat),i<(1:Nat)→rE true)∧rE (0:Nat)∧rE z_1.1∧(∀ (i:Nat),rE true)∧(z_1.1+(1:Nat))*(16:Nat)≤(140737488355328:Nat)∧z_1.1+(1:Nat)≤(4611686018427387904:Nat)∧rI ((↑z_1.1:Int)+(1:Int))∧∃ (z_2:Nat),((1:Nat)≤z_2∧goI p z_2)∧p.f.1 - z_2<p.f.1 - z∧rE (0:Nat)∧rE (0:Nat)∧rE (0:Nat)∧rE ((tqO p).length)∧rE (0:Nat)∧z_1.1+(1:Nat)=z_2∧(↑z_1.1:Int)+(1:Int)=(↑z_2:Int)∧p.1=p.1∧rE p.f.1∧(∀ (i:Nat),i<p.f.1→rE ((p.f.el i).den)∧True∧True∧True∧True∧True)∧rE ((tqO p).length)∧(∀ (i:Nat),i<(tqO p).length→rE (1:Nat)∧rE p.f.1∧(∀ (i_1:Nat),i_1<p.f.1→rE ((i6 ((tqO p).getD i zF i_1)).den)∧True)∧True) ∧
z_2=z_1.1+(1:Nat)∧(∀ (i:Nat),i<z_2→rE (2:Nat)∧(if i<z_1.1 then mnQ (tqO p) i (tqO p).length else mnQ (tqO p) z_1.1 z_1.2)=mnQ (tqO p) i (tqO p).length∧(if i<z_1.1 then mxQ (tqO p) i (tqO p).length else mxQ (tqO p) z_1.1 z_1.2)=mxQ (tqO p) i (tqO p).length∧True)∧True))∧(¬(↑z:Int)<(↑p.f.1:Int)→z=okN p∧(0:Nat)+okN p≤z∧(∀ (i:Nat),i<okN p→rE (2:Nat)∧rE (2:Nat)∧mnQ (tqO p) (i+(0:Nat)) (tqO p).length=tgE false p i∧mxQ (tqO p) (i+(0:Nat)) (tqO p).length=tgE true p i∧True)∧(0:Int)=chE p∧True)))):=by kernel_rfl
end Go.Proofs.Ytmjbflifegmmnaa

set_option maxRecDepth 100000
namespace Go.Proofs.Ytmjbflifegmmnaa
open Go Go.Lg
attribute [local irreducible] funS bodyH
theorem isT_congr {p:Pl} {x y:Nat→Int} (h:∀ i,i<p.f.n→x i=y i) (hy:IsT p y):IsT p x:=by
 refine ⟨fun i hi=>by rw [h i hi]; exact hy.gas i hi,fun v hv=>?_⟩
 have e:=hy.net v hv
 unfold netN at e ⊢
 rw [sm_congr (p:=fun i=>decide (p.f.to i=v)) (q:=fun i=>decide (p.f.to i=v)) fun i hi=>⟨rfl,fun _=>h i hi⟩,sm_congr (p:=fun i=>decide (p.f.fr i=v)) (q:=fun i=>decide (p.f.fr i=v)) fun i hi=>⟨rfl,fun _=>h i hi⟩]
 exact e
theorem lb_loc (p:Pl):locQ (loB p) (hiB p):=fun x y i h=>⟨rfl,rfl⟩
section
variable {p:Pl}
theorem tq_mem (hp:okP p) {i:Nat} (hi:i<(tqO p).length):IsT p ((tqO p).getD i zF):=((isP_iff hp).1 (lsQ_mem (lb_loc p) p.f.n zF _ (Nat.le_refl _) (getD_mem hi)).2.2.r).2
theorem tq_of (hp:okP p) {y:Nat→Int} (hy:IsT p y):∃ i,i<(tqO p).length∧∀ j,j<p.f.n→(tqO p).getD i zF j=y j:=by
 obtain ⟨x,hx,h1⟩:=lsQ_of (lb_loc p) (F:=rgB p) (q:=y) (fun x h=>⟨(isP_iff hp).2 ⟨rfl,isT_congr h hy⟩⟩) p.f.n zF (Nat.le_refl _) (fun i hi=>by omega) (fun i _ hi=>hy.gas i hi)
 obtain ⟨i,hi,e⟩:=getD_of hx
 exact ⟨i,hi,by show ∀ j,j<p.f.n→(lsQ (loB p) (hiB p) (rgB p) p.f.n p.f.n zF).getD i zF j=y j; rw [e]; exact h1⟩
theorem tq_lex {i j:Nat} (hij:i<j) (hj:j<(tqO p).length):lexQ p.f.n ((tqO p).getD i zF) ((tqO p).getD j zF):=getD_pair (lsQ_lex (lb_loc p) p.f.n zF (Nat.le_refl _)) hij hj
theorem tq_hof (hp:okP p):0<(tqO p).length↔Hof p:=by
 constructor
 ·intro h; exact hof_of hp (tq_mem hp h)
 ·intro h
  obtain ⟨i,hi,_⟩:=tq_of hp (tru_is hp h)
  omega
theorem tq_first (hp:okP p) (h:Hof p):∀ i,i<p.f.n→(tqO p).getD 0 zF i=truV p i:=by
 obtain ⟨j,hj,e⟩:=tq_of hp (tru_is hp h)
 rcases Nat.eq_zero_or_pos j with rfl | h0
 ·exact e
 ·obtain ⟨k,hk,h1,h2⟩:=tq_lex h0 hj
  have:=tru_first hp (tq_mem hp (by omega:0<(tqO p).length)) hk fun a ha=>by rw [h1 a ha,e a (by omega)]
  rw [e k hk] at h2
  omega
theorem mn_le (O:List (Nat→Int)) (i:Nat):∀ k,(∀ j,j<k→mnQ O i k≤O.getD j zF i)∧(∀ j,j<k→O.getD j zF i≤mxQ O i k)∧(∃ j,j<k+1∧(0<k→j<k)∧mnQ O i k=O.getD j zF i)∧∃ j,j<k+1∧(0<k→j<k)∧mxQ O i k=O.getD j zF i
 | 0=>⟨fun j hj=>by omega,fun j hj=>by omega,⟨0,by omega,fun h=>by omega,rfl⟩,0,by omega,fun h=>by omega,rfl⟩
 | k+1=>by
  obtain ⟨h1,h2,⟨a,a1,a2,a3⟩,b,b1,b2,b3⟩:=mn_le O i k
  have em:mnQ O i (k+1)=min (mnQ O i k) (O.getD k zF i):=rfl
  have ex:mxQ O i (k+1)=max (mxQ O i k) (O.getD k zF i):=rfl
  refine ⟨fun j hj=>?_,fun j hj=>?_,?_,?_⟩
  ·by_cases e:j=k
   ·subst e; omega
   ·have:=h1 j (by omega); omega
  ·by_cases e:j=k
   ·subst e; omega
   ·have:=h2 j (by omega); omega
  ·by_cases e:mnQ O i k≤O.getD k zF i
   ·by_cases e0:k=0
    ·subst e0; exact ⟨0,by omega,fun _=>by omega,by have:mnQ O i 0=O.getD 0 zF i:=rfl; omega⟩
    ·exact ⟨a,by omega,fun _=>by have:=a2 (by omega); omega,by omega⟩
   ·exact ⟨k,by omega,fun _=>by omega,by omega⟩
  ·by_cases e:O.getD k zF i≤mxQ O i k
   ·by_cases e0:k=0
    ·subst e0; exact ⟨0,by omega,fun _=>by omega,by have:mxQ O i 0=O.getD 0 zF i:=rfl; omega⟩
    ·exact ⟨b,by omega,fun _=>by have:=b2 (by omega); omega,by omega⟩
   ·exact ⟨k,by omega,fun _=>by omega,by omega⟩
theorem tq_ends (hp:okP p) (h:Hof p) {i:Nat} (hi:i<p.f.n):mnQ (tqO p) i (tqO p).length=tgE false p i∧mxQ (tqO p) i (tqO p).length=tgE true p i:=by
 have h0:=(tq_hof hp).2 h
 obtain ⟨h1,h2,⟨a,_,a2,a3⟩,b,_,b2,b3⟩:=mn_le (tqO p) i (tqO p).length
 have t:=tg_le hp h hi
 obtain ⟨y,y1,y2⟩:=tg_ex hp h hi (x:=tgE false p i) ⟨Int.le_refl _,t⟩
 obtain ⟨z,z1,z2⟩:=tg_ex hp h hi (x:=tgE true p i) ⟨t,Int.le_refl _⟩
 obtain ⟨j,j1,j2⟩:=tq_of hp y1
 obtain ⟨k,k1,k2⟩:=tq_of hp z1
 have u1:=h1 j j1
 have u2:=h2 k k1
 rw [j2 i hi] at u1
 rw [k2 i hi] at u2
 have v1:=(tg_of hp (tq_mem hp (a2 h0)) hi).1
 have v2:=(tg_of hp (tq_mem hp (b2 h0)) hi).2
 omega
theorem mB_pos (hp:okP p) {b:Int} (hb:1≤b):∀ i,i≤p.f.n→1≤mB p b i
 | 0,_=>Int.le_refl _
 | i+1,hi=>by
  have ih:=mB_pos hp hb i (by omega)
  have g:=hp.gas i (by omega)
  have:=Int.mul_le_mul ih (by omega:(1:Int)≤min (b+1) (p.f.hi i - p.f.lo i+1)) (by omega) (by omega)
  rw [mB]
  omega
theorem mB_nat (hp:okP p) {b:Int} (hb:1≤b) (hm:∀ j,j≤p.f.n→mB p b j≤b) {i:Nat} (hi:i<p.f.n):mB p b (i+1)=mB p b i*(p.f.hi i - p.f.lo i+1):=by
 have h1:=mB_pos hp hb i (by omega)
 have h2:=hm (i+1) (by omega)
 have g:=hp.gas i hi
 rw [mB] at h2 ⊢
 by_cases e:p.f.hi i - p.f.lo i+1≤b+1
 ·rw [show min (b+1) (p.f.hi i - p.f.lo i+1)=p.f.hi i - p.f.lo i+1 by omega]
 ·rw [show min (b+1) (p.f.hi i - p.f.lo i+1)=b+1 by omega] at h2
  have:=Int.mul_le_mul h1 (Int.le_refl (b+1)) (by omega) (by omega)
  omega
theorem pr_mB (hp:okP p) {b:Int} (hb:1≤b) (hm:∀ j,j≤p.f.n→mB p b j≤b):∀ d,d≤p.f.n→(prQ (fun i=>(p.f.hi i - p.f.lo i+1).toNat) p.f.n d:Int)*mB p b (p.f.n - d)=mB p b p.f.n
 | 0,_=>by simp [prQ]
 | d+1,hd=>by
  have ih:=pr_mB hp hb hm d (by omega)
  have g:=hp.gas (p.f.n - (d+1)) (by omega)
  have e:=mB_nat hp hb hm (i:=p.f.n - (d+1)) (by omega)
  rw [show p.f.n - (d+1)+1=p.f.n - d by omega] at e
  rw [← ih,e,prQ,Int.natCast_mul]
  rw [show (((p.f.hi (p.f.n - (d+1)) - p.f.lo (p.f.n - (d+1))+1).toNat:Nat):Int)=p.f.hi (p.f.n - (d+1)) - p.f.lo (p.f.n - (d+1))+1 by omega]
  rw [Int.mul_comm (mB p b (p.f.n - (d+1))),← Int.mul_assoc,Int.mul_comm (p.f.hi _ - _+1)]
theorem len_lg {a b:Int} (hb:1≤b) (hl:¬ lgP p a b) (hp:okP p):((tqO p).length:Int)≤b∧(p.f.n:Int)≤a:=by
 unfold lgP at hl
 have hn:=hp.n
 have hm:∀ j,j≤p.f.n→mB p b j≤b:=fun j hj=>by
  cases j with
  | zero=>exact hb
  | succ j=>exact Int.not_lt.1 fun h=>hl (.inr ⟨hp,j,by omega,h⟩)
 have h1:=lsQ_len (lo:=loB p) (hi:=hiB p) (F:=rgB p) (m:=p.f.n) (B:=fun i=>(p.f.hi i - p.f.lo i+1).toNat) (fun x i=>Nat.le_refl _) p.f.n zF
 have h2:=pr_mB hp hb hm p.f.n (Nat.le_refl _)
 rw [Nat.sub_self] at h2
 have h3:mB p b 0=1:=rfl
 rw [h3,Int.mul_one] at h2
 have h4:=hm p.f.n (Nat.le_refl _)
 have h5:(tqO p).length≤prQ (fun i=>(p.f.hi i - p.f.lo i+1).toNat) p.f.n p.f.n:=h1
 refine ⟨by omega,Int.not_lt.1 fun h=>hl (.inl (.inl ⟨h,hn⟩))⟩
theorem len_ok {a b:Int} (hb:1≤b∧b≤1000000) (hl:¬ lgP p a b):lenB p:=⟨fun hp=>by have:=(len_lg hb.1 hl hp).1; omega⟩
end
end Go.Proofs.Ytmjbflifegmmnaa

set_option maxRecDepth 100000
namespace Go.Proofs.Ytmjbflifegmmnaa
open Go Go.Lg
attribute [local irreducible] funS bodyH
theorem lg_true {p : Pl} {a b : Int} (hb : 1 ≤ b ∧ b ≤ 100000) : lgG p a b := by
  rw [lgG_vc]
  simp only [rI, rE, tt3, tt4, tt5, tt13, tt14, and_true, true_and, Nat.zero_lt_one, and_self, implies_true, Int.toNat_natCast, Nat.zero_add, Nat.add_zero, Nat.one_mul, Nat.mul_one, Classical.not_not, iff_self, Bool.false_eq_true, imp_false, and_imp, true_implies, forall_const, p_f3, p_s3, p_f4, prI_i, not_true, false_implies]
  refine ⟨fun h => ⟨fun h2 => ⟨fun _ => .inl (.inl ⟨h, by omega⟩), fun _ => trivial⟩, fun h2 => ⟨fun h3 => ⟨fun _ => .inl (.inr (by omega)), fun _ => trivial⟩, fun h3 => ?_⟩⟩, fun h => ⟨fun h3 => ⟨fun _ => .inl (.inr (by omega)), fun _ => trivial⟩, fun h3 => ?_⟩⟩
  all_goals
    have hc : ¬ (a < p.f.n ∧ p.f.n ≤ 16) ∧ p.f.n ≤ 20 := ⟨by omega, by omega⟩
    refine ⟨⟨0, ⟨by omega, fun h => by omega, fun j hj => by obtain rfl : j = 0 := by omega
                                                             exact hb.1, hc⟩, rfl, rfl⟩, fun z hz => ⟨fun hl => ⟨fun hp => ?_, fun hp => ?_⟩, fun hl => ?_⟩⟩
    · have g := hp.gas z (by omega)
      have m1 := mB_pos hp hb.1 z (by omega)
      have m2 := hz.m z (Nat.le_refl _)
      have u1 := Int.mul_le_mul m1 (by omega : (1 : Int) ≤ min (b + 1) (p.f.hi z - p.f.lo z + 1)) (by omega) (by omega)
      have u2 := Int.mul_le_mul (by omega : mB p b z ≤ 100000) (by omega : min (b + 1) (p.f.hi z - p.f.lo z + 1) ≤ 100001) (by omega) (by omega)
      refine ⟨by omega, by omega, hl, by omega, hl, by omega, by omega, by omega, fun hm => ⟨fun _ => .inr ⟨hp, z, by omega, hm⟩, fun _ => trivial⟩, fun hm => ⟨by omega, z + 1, ⟨by omega, fun _ => hp, fun j hj => ?_, hc⟩, by omega, rfl, by omega⟩⟩
      by_cases e : j = z + 1
      · subst e; exact Int.not_lt.1 hm
      · exact hz.m j (by omega)
    · exact ⟨fun h => h.elim, fun h => h.elim (fun h => h.elim (fun h => hc.1 ⟨h.1, h.2⟩) fun h => absurd hc.2 (by omega)) fun h => hp h.1⟩
    · refine ⟨fun h => h.elim, fun h => h.elim (fun h => h.elim (fun h => hc.1 ⟨h.1, h.2⟩) fun h => absurd hc.2 (by omega)) ?_⟩
      rintro ⟨_, i, hi, hm⟩
      have := hz.m (i + 1) (by omega)
      omega
theorem val_cs : SoundS Try.prog (ctrs [valC hPlant]) := ctrs_sound (by intro y hy; simp at hy; subst hy; exact rPl_ok)
theorem lg_ok : lgC.Ok Try.prog := plC_ok (by kernel_rfl) fun w r k hk => by
  split at hk
  · rename_i a b
    obtain ⟨hb, hk⟩ := hk
    have hh := lg_true (p := w) (a := a) hb
    unfold lgG at hh
    exact ⟨_, okV val_cs nil_x nil_ic hh trivial, hk⟩
  · exact hk.elim
theorem bad_v {p : Pl} (h : ¬ okP p) : 0 = okN p ∧ 1 = chE p := by
  have e : chE p = 1 := by rw [chE, if_neg h]
  exact ⟨by rw [okN, if_neg (by omega)], e.symm⟩
theorem no_v {p : Pl} (h : okP p) (hh : ¬ Hof p) : 0 = okN p ∧ 6 = chE p := by
  have e := chE_no h hh
  exact ⟨by rw [okN, if_neg (by omega)], e.symm⟩
theorem rt_true {p : Pl} (hl : lenB p) : rtG p := by
  rw [rtG_vc]
  simp only [rI, rE, tt3, tt4, tt5, tt13, tt14, and_true, true_and, Nat.zero_lt_one, and_self, implies_true, Int.toNat_natCast, Nat.zero_add, Nat.add_zero, Nat.one_mul, Nat.mul_one, Classical.not_not, iff_self, Bool.false_eq_true, imp_false, and_imp, true_implies, forall_const, p_f3, p_s3, p_f4, prI_i, not_true, false_implies]
  refine ⟨bad_v, fun hp => ?_⟩
  have hN : ([] : List (Nat → Int)) ++ tqQ p (p.f.n - 0) zF = tqO p := rfl
  have h16 := hp.n
  refine ⟨p, [], zF, ⟨rfl, fun i hi => by omega, rfl, fun i hi => by omega, by omega, by omega, hp, hl.l hp⟩, ?_⟩
  rw [hN]
  refine ⟨fun h0 => no_v hp fun hh => ?_, fun h0 => ?_⟩
  · have := (tq_hof hp).2 hh; omega
  have hH := (tq_hof hp).1 (by omega)
  obtain ⟨e1, e2⟩ := chE_ok hp hH
  rw [e1, e2]
  exact ⟨by omega, by omega, by show 0 < (tqO p).length; omega, rfl, fun i hi => by rw [show Int.toNat 0 = 0 from rfl, tq_first hp hH i hi], rfl⟩
theorem rg_true {p : Pl} (hl : lenB p) : rgG p := by
  rw [rgG_vc]
  simp only [rI, rE, tt3, tt4, tt5, tt13, tt14, and_true, true_and, Nat.zero_lt_one, and_self, implies_true, Int.toNat_natCast, Nat.zero_add, Nat.add_zero, Nat.one_mul, Nat.mul_one, Classical.not_not, iff_self, Bool.false_eq_true, imp_false, and_imp, true_implies, forall_const, p_f3, p_s3, p_f4, prI_i, not_true, false_implies]
  refine ⟨bad_v, fun hp => ?_⟩
  have hN : ([] : List (Nat → Int)) ++ tqQ p (p.f.n - 0) zF = tqO p := rfl
  have h16 := hp.n
  refine ⟨p, [], zF, ⟨rfl, fun i hi => by omega, rfl, fun i hi => by omega, by omega, by omega, hp, hl.l hp⟩, ?_⟩
  rw [hN]
  refine ⟨fun h0 => no_v hp fun hh => ?_, fun h0 => ?_⟩
  · have := (tq_hof hp).2 hh; omega
  have hlen := hl.l hp
  have h1 : 0 < (tqO p).length := by omega
  have hH := (tq_hof hp).1 h1
  obtain ⟨e1, e2⟩ := chE_ok hp hH
  have en : ∀ {k : Nat} {i : Nat}, ¬ ((k : Int) < (tqO p).length) → k ≤ (tqO p).length → mnQ (tqO p) i k = mnQ (tqO p) i (tqO p).length ∧ mxQ (tqO p) i k = mxQ (tqO p) i (tqO p).length := fun {k i} h h' => by
    obtain rfl : k = (tqO p).length := by omega
    exact ⟨rfl, rfl⟩
  refine ⟨⟨0, rfl, rfl, rfl, rfl, fun i hi => ⟨rfl, fun j hj => rfl⟩⟩, fun z ez => ⟨fun hz => ⟨by omega, by omega, h1, by omega, hz, by omega, by omega, h1, by omega, hz, ⟨(z, 0), ⟨⟨ez, by omega, by omega⟩, rfl⟩, rfl, rfl, rfl, rfl⟩, ?_, ?_⟩, fun hz => ?_⟩, fun z h1z hz => ⟨fun hlt => ⟨by omega, by omega, h1, by omega, hlt, by omega, by omega, h1, by omega, hlt, ⟨(z, 0), ⟨⟨h1z, by omega, by omega⟩, rfl⟩, rfl, rfl, rfl, rfl, rfl, rfl⟩, ?_, ?_⟩, fun hge => ?_⟩⟩
  · rintro ⟨i, k⟩ ei hg e2
    have ei : i = 0 := ei
    have e2 : i = z := e2
    have g1 := hg.a
    have g2 := hg.b
    refine ⟨fun hk => ?_, fun hk => ?_⟩
    · have hk : (k : Int) < (tqO p).length := hk
      exact ⟨by omega, hk, by show k < _; omega, by omega, by show (i : Int) < _; omega, by omega, hk, by show k < _; omega, by omega, by show (i : Int) < _; omega, by show _ ∧ (k : Int) + 1 ≤ _; omega, (i, k + 1), ⟨⟨ei, g1, by show k + 1 ≤ _; omega⟩, e2⟩, by show _ - (k + 1) < _ - k; omega, rfl, rfl, rfl, rfl⟩
    · have hk : ¬ (k : Int) < (tqO p).length := hk
      refine ⟨by omega, by omega, by show _ ∧ (i : Int) + 1 ≤ _; omega, 1, ⟨by omega, ⟨by omega⟩⟩, by omega, rfl, by show (i : Int) + 1 = _; omega, rfl, fun j hj => ?_⟩
      obtain rfl : j = i := by omega
      exact en hk g2
  · rintro ⟨i, k⟩ ei hg e2
    have ei : 1 ≤ i := ei
    have e2 : i = z := e2
    omega
  · have n0 : p.f.n = 0 := by omega
    rw [e1, e2]
    exact ⟨n0.symm, rfl⟩
  · rintro ⟨i, k⟩ ei hg e2
    have ei : i = 0 := ei
    have e2 : i = z := e2
    omega
  · rintro ⟨i, k⟩ ei hg e2
    have ei : 1 ≤ i := ei
    have e2 : i = z := e2
    have g1 := hg.a
    have g2 := hg.b
    refine ⟨fun hk => ?_, fun hk => ?_⟩
    · have hk : (k : Int) < (tqO p).length := hk
      exact ⟨by omega, hk, by show k < _; omega, by omega, by show (i : Int) < _; omega, by omega, hk, by show k < _; omega, by omega, by show (i : Int) < _; omega, by show _ ∧ (k : Int) + 1 ≤ _; omega, (i, k + 1), ⟨⟨ei, g1, by show k + 1 ≤ _; omega⟩, e2⟩, by show _ - (k + 1) < _ - k; omega, rfl, rfl, rfl, rfl, rfl, rfl⟩
    · have hk : ¬ (k : Int) < (tqO p).length := hk
      refine ⟨by show (i + 1) * 16 ≤ _; omega, by show i + 1 ≤ _; omega, by show _ ∧ (i : Int) + 1 ≤ _; omega, i + 1, ⟨by omega, ⟨by omega⟩⟩, by omega, rfl, rfl, rfl, fun j hj => ?_⟩
      by_cases e : j < i
      · show (if j < i then _ else _) = _ ∧ (if j < i then _ else _) = _
        rw [if_pos e, if_pos e]; exact ⟨rfl, rfl⟩
      · show (if j < i then _ else _) = _ ∧ (if j < i then _ else _) = _
        rw [if_neg e, if_neg e]
        obtain rfl : j = i := by omega
        exact en hk g2
  · have hz' := hz.a
    have : z = p.f.n := by omega
    rw [e1, e2]
    exact ⟨this, by omega, fun i hi => tq_ends hp hH hi, rfl⟩
theorem tq_os : SoundO Try.prog (octrs [tqC 16]) := octrs_sound (by
  intro x hx
  simp at hx
  subst hx
  exact tq_ok 16)
theorem rt_ok : rtC.OkF Try.prog := plC_okF (by kernel_rfl) fun w r k hk => by
  split at hk
  · obtain ⟨hl, hk⟩ := hk
    have hh := rt_true hl
    unfold rtG at hh
    exact ⟨_, funY_does val_cs nil_x nil_ic tq_os mixed hh, hk⟩
  · exact hk.elim
theorem rg_ok : rgC.OkF Try.prog := plC_okF (by kernel_rfl) fun w r k hk => by
  split at hk
  · obtain ⟨hl, hk⟩ := hk
    have hh := rg_true hl
    unfold rgG at hh
    exact ⟨_, funY_does val_cs nil_x nil_ic tq_os mixed hh, hk⟩
  · exact hk.elim
end Go.Proofs.Ytmjbflifegmmnaa
