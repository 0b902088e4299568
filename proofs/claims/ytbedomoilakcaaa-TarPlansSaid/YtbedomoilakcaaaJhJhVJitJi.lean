import Derived.Test.YtbedomoilakcaaaJfJfVJgtJg
set_option linter.unusedVariables false
set_option linter.unusedSimpArgs false
namespace Go.Proofs.Ytbedomoilakcaaa
open Go Go.Lg
attribute [local irreducible] bodyH funS
def soC (f:Nat→Int):List SV:=[i6 (f 0),i6 (f 1),i6 (f 2),i6 (f 3),i6 (f 4),i6 (f 5)]
def soV (f:Nat→Int):SV:=.agg (soC f)
structure Ss where
 l:Nat→Tw
 s:Nat→Int
 c:Int
def ssA (sal:Nat→Sal) (x:Ss) (i:Int):Int:=min (x.l (sal i.toNat).good.toNat).lo (sal i.toNat).most
def ssN (sal:Nat→Sal) (x:Ss) (i:Int):Ss :=
 ⟨fun g=>if g=(sal i.toNat).good.toNat then ⟨(x.l g).lo - ssA sal x i,(x.l g).hi⟩ else x.l g,fun j=>if j=i.toNat then ssA sal x i else x.s j,x.c+ssA sal x i*(sal i.toNat).price⟩
def seS (sal:Nat→Sal) (o:Nat→Int) (L:Nat→Tw):Nat→Ss
 | 0=>⟨L,fun _=>0,0⟩
 | k+1=>ssN sal (seS sal o L k) (o k)
structure okOr (q:Nat) (sal:Nat→Sal) (o:Nat→Int):Prop where
 a:q≤6
 b:∀ k,k<q→0≤o k∧o k<q
 s:okSls 6 q sal
noncomputable def seG (q:Nat) (sal:Nat→Sal) (o:Nat→Int) (L:Nat→Tw):Prop:=funH Try.prog (ctrs []) noX (ictrs [])
 (oneL 0 (natH (fun k=>k≤q) (fun k=>q - k) 3 (fun k=>mkF 53 [(2,.ptr 0 0 0),(3,.ptr 1 0 0),(4,.ptr 2 0 0),(5,i6 (seS sal o L k).c),(10,iL q o),(11,i6 q),(12,i6 k)])
  (fun k=>mkX [vr 2 (.agg [salL q sal,iL q o]),vr 12 (gdV (seS sal o L k).l),vr 6 (soV (seS sal o L k).s)]) fun _=>none)) noL
 29 [.agg [salL q sal,iL q o],gdV L] (.tup [soV (seS sal o L q).s,i6 (seS sal o L q).c])
noncomputable def seC:Ctr:=⟨29,fun args k=>match args with
 | [.agg [.lst 3 q sal,.lst 1 n o],v]=>gdK v fun L=>SV.lst 3 q sal=salL q (fun i=>salOf (sal i))∧SV.lst 1 n o=iL n (iOf o)∧n=q∧okOr q (fun i=>salOf (sal i)) (iOf o)∧bdG 10000000000 L∧k (.tup [soV (seS (fun i=>salOf (sal i)) (iOf o) L q).s,i6 (seS (fun i=>salOf (sal i)) (iOf o) L q).c])
 | _=>False⟩
noncomputable def inS (Y:Yd) (p:Nat→Int):Ss:=seS Y.sal (stF Y.sal Y.q) (plX Y p Y.m).l Y.q
open Classical in
noncomputable def inI (Y:Yd) (n:Nat) (p:Nat→Int):Int:=if erP Y n p=0 then (inS Y p).c - (plX Y p Y.m).c else 0
open Classical in
noncomputable def inN (Y:Yd) (n:Nat) (p:Nat→Int):Nat:=if erP Y n p=0 then Y.q else 0
def iA (n:Nat) (f:Nat→Int):SV:=.lst 1 n fun i=>.agg [i6 (f i)]
noncomputable def inR (Y:Yd) (n:Nat) (p:Nat→Int):SV:=.tup [i6 (inI Y n p),iA (inN Y n p) (inS Y p).s,i6 (erP Y n p)]
noncomputable def csI:CSpec:=ctrsF [nmC] (ctrs [pyC,seC])
noncomputable def inG (Y:Yd) (n:Nat) (p:Nat→Int):Prop:=funN Try.prog csI noX (ictrs []) noL noL 16 [Y.sv,iL n p] (inR Y n p)
noncomputable def inC:Ctr:=⟨16,fun args k=>match args with
 | [.agg [.lst 1 g st,.lst 5 m sti,.lst 3 q sal],.lst 1 n p]=>SV.agg [.lst 1 g st,.lst 5 m sti,.lst 3 q sal]=(ydOf g st m sti q sal).sv∧SV.lst 1 n p=iL n (iOf p)∧k (inR (ydOf g st m sti q sal) n (iOf p))
 | _=>False⟩
end Go.Proofs.Ytbedomoilakcaaa

set_option maxRecDepth 100000
namespace Go.Proofs.Ytbedomoilakcaaa
open Go Go.Lg
theorem seG_vc (q:Nat) (sal:Nat→Sal) (o:Nat→Int) (L:Nat→Tw):seG q sal o L=((0:Nat)<(1:Nat)∧(∃ (z:Nat),z≤q∧rE (0:Nat)∧rE (0:Nat)∧rE (0:Nat)∧rE (0:Nat)∧rE (0:Nat)∧rE (0:Nat)∧(0:Int)=(seS sal o L z).3∧q=q∧(∀ (i:Nat),i<q→rE ((i6 (o i)).den)∧True)∧rE (↑q:Int)∧(0:Int)=(↑z:Int)∧q=q∧(∀ (i:Nat),i<q→rE ((sal i).sv.den)∧True∧True∧True∧True)∧q=q∧(∀ (i:Nat),i<q→rE ((i6 (o i)).den)∧True)∧(L (0:Nat)).1=((seS sal o L z).l (0:Nat)).1∧(L (0:Nat)).2=((seS sal o L z).l (0:Nat)).2∧(L (1:Nat)).1=((seS sal o L z).l (1:Nat)).1∧(L (1:Nat)).2=((seS sal o L z).l (1:Nat)).2∧(L (2:Nat)).1=((seS sal o L z).l (2:Nat)).1∧(L (2:Nat)).2=((seS sal o L z).l (2:Nat)).2∧(L (3:Nat)).1=((seS sal o L z).l (3:Nat)).1∧(L (3:Nat)).2=((seS sal o L z).l
(3:Nat)).2∧(L (4:Nat)).1=((seS sal o L z).l (4:Nat)).1∧(L (4:Nat)).2=((seS sal o L z).l (4:Nat)).2∧(L (5:Nat)).1=((seS sal o L z).l (5:Nat)).1∧(L (5:Nat)).2=((seS sal o L z).l (5:Nat)).2∧(0:Int)=(seS sal o L z).2 (0:Nat)∧(0:Int)=(seS sal o L z).2 (1:Nat)∧(0:Int)=(seS sal o L z).2 (2:Nat)∧(0:Int)=(seS sal o L z).2 (3:Nat)∧(0:Int)=(seS sal o L z).2 (4:Nat)∧(0:Int)=(seS sal o L z).2 (5:Nat)∧True)∧∀ (z:Nat),z≤q→((↑z:Int)<(↑q:Int)→(0:Int)≤(↑z:Int)∧(↑z:Int)<(↑q:Int)∧(0:Nat)<(1:Nat)∧(0:Int)≤o (↑z:Int).toNat∧o (↑z:Int).toNat<(↑q:Int)∧(0:Nat)<(1:Nat)∧(0:Int)≤(sal (o (↑z:Int).toNat).toNat).1∧(sal (o (↑z:Int).toNat).toNat).1<(↑(6:Nat):Int)∧(0:Nat)<(1:Nat)∧(0:Nat)+(sal (o (↑z:Int).toNat).toNat).1.toNat*(2:Nat)+(0:Nat)
< (12:Nat)∧(0:Nat)<(1:Nat)∧(0:Int)≤o (↑z:Int).toNat∧o (↑z:Int).toNat<(↑(6:Nat):Int)∧(0:Nat)+(o (↑z:Int).toNat).toNat*(1:Nat)<(6:Nat)∧(0:Nat)<(1:Nat)∧(0:Int)≤(sal (o (↑z:Int).toNat).toNat).1∧(sal (o (↑z:Int).toNat).toNat).1<(↑(6:Nat):Int)∧(0:Nat)<(1:Nat)∧(0:Nat)+(sal (o (↑z:Int).toNat).toNat).1.toNat*(2:Nat)+(0:Nat)<(12:Nat)∧(0:Int)≤o (↑z:Int).toNat∧o (↑z:Int).toNat<(↑(6:Nat):Int)∧(0:Nat)<(1:Nat)∧(0:Nat)+(o (↑z:Int).toNat).toNat*(1:Nat)<(6:Nat)∧rI (cellZ (gdV (seS sal o L z).l).cells ((0:Nat)+(sal (o (↑z:Int).toNat).toNat).1.toNat*(2:Nat)+(0:Nat)) - cellZ ((SRow.v (6:Nat) (SV.agg (setZ IntKind.i64 ((0:Nat)+(o (↑z:Int).toNat).toNat*Nat.succ (0:Nat)) (min (cellZ (gdV (seS sal o L z).l).cells ((0:Nat)+(sal (o (↑z:Int).toNat).toNat).good.toNat
* Nat.succ (1:Nat)+(0:Nat))) (sal (o (↑z:Int).toNat).toNat).most) (soC (seS sal o L z).s) (0:Nat)))).f (0:Nat)).cells ((0:Nat)+(o (↑z:Int).toNat).toNat*(1:Nat)))∧(0:Int)≤(sal (o (↑z:Int).toNat).toNat).1∧(sal (o (↑z:Int).toNat).toNat).1<(↑(6:Nat):Int)∧(0:Nat)+(sal (o (↑z:Int).toNat).toNat).1.toNat*(2:Nat)+(0:Nat)<(12:Nat)∧(0:Int)≤o (↑z:Int).toNat∧o (↑z:Int).toNat<(↑(6:Nat):Int)∧(0:Nat)<(1:Nat)∧(0:Nat)+(o (↑z:Int).toNat).toNat*(1:Nat)<(6:Nat)∧(0:Nat)<(1:Nat)∧rI (cellZ ((SRow.v (6:Nat) (SV.agg (setZ IntKind.i64 ((0:Nat)+(o (↑z:Int).toNat).toNat*Nat.succ (0:Nat)) (min (cellZ (gdV (seS sal o L z).l).cells ((0:Nat)+(sal (o (↑z:Int).toNat).toNat).good.toNat*Nat.succ (1:Nat)+(0:Nat))) (sal (o (↑z:Int).toNat).toNat).most) (soC (seS sal o L z).s) (0:Nat)))).f
(0:Nat)).cells ((0:Nat)+(o (↑z:Int).toNat).toNat*(1:Nat))*(sal (o (↑z:Int).toNat).toNat).3)∧rI ((seS sal o L z).3+cellZ ((SRow.v (6:Nat) (SV.agg (setZ IntKind.i64 ((0:Nat)+(o (↑z:Int).toNat).toNat*Nat.succ (0:Nat)) (min (cellZ (gdV (seS sal o L z).l).cells ((0:Nat)+(sal (o (↑z:Int).toNat).toNat).good.toNat*Nat.succ (1:Nat)+(0:Nat))) (sal (o (↑z:Int).toNat).toNat).most) (soC (seS sal o L z).s) (0:Nat)))).f (0:Nat)).cells ((0:Nat)+(o (↑z:Int).toNat).toNat*(1:Nat))*(sal (o (↑z:Int).toNat).toNat).3)∧rI ((↑z:Int)+(1:Int))∧∃ (z_1:Nat),z_1≤q∧q - z_1<q - z∧rE (0:Nat)∧rE (0:Nat)∧rE (0:Nat)∧rE (0:Nat)∧rE (0:Nat)∧rE (0:Nat)∧(seS sal o L z).3+cellZ ((SRow.v (6:Nat) (SV.agg (setZ IntKind.i64 ((0:Nat)+(o (↑z:Int).toNat).toNat*Nat.succ (0:Nat)) (min (cellZ (gdV (seS sal o L z).l).cells
((0:Nat)+(sal (o (↑z:Int).toNat).toNat).good.toNat*Nat.succ (1:Nat)+(0:Nat))) (sal (o (↑z:Int).toNat).toNat).most) (soC (seS sal o L z).s) (0:Nat)))).f (0:Nat)).cells ((0:Nat)+(o (↑z:Int).toNat).toNat*(1:Nat))*(sal (o (↑z:Int).toNat).toNat).3=(seS sal o L z_1).3∧q=q∧(∀ (i:Nat),i<q→rE ((i6 (o i)).den)∧True)∧rE (↑q:Int)∧(↑z:Int)+(1:Int)=(↑z_1:Int)∧q=q∧(∀ (i:Nat),i<q→rE ((sal i).sv.den)∧True∧True∧True∧True)∧q=q∧(∀ (i:Nat),i<q→rE ((i6 (o i)).den)∧True)∧(if (0:Nat)+(sal (o (↑z:Int).toNat).toNat).1.toNat*(2:Nat)+(0:Nat)=(0:Nat) then cellZ (gdV (seS sal o L z).l).cells ((0:Nat)+(sal (o (↑z:Int).toNat).toNat).1.toNat*(2:Nat)+(0:Nat)) - cellZ ((SRow.v (6:Nat) (SV.agg (setZ IntKind.i64 ((0:Nat)+(o (↑z:Int).toNat).toNat*Nat.succ (0:Nat)) (min (cellZ (gdV
(seS sal o L z).l).cells ((0:Nat)+(sal (o (↑z:Int).toNat).toNat).good.toNat*Nat.succ (1:Nat)+(0:Nat))) (sal (o (↑z:Int).toNat).toNat).most) (soC (seS sal o L z).s) (0:Nat)))).f (0:Nat)).cells ((0:Nat)+(o (↑z:Int).toNat).toNat*(1:Nat)) else ((seS sal o L z).l (0:Nat)).1)=((seS sal o L z_1).l (0:Nat)).1∧(if (0:Nat)+(sal (o (↑z:Int).toNat).toNat).1.toNat*(2:Nat)+(0:Nat)=(0:Nat)+(1:Nat) then cellZ (gdV (seS sal o L z).l).cells ((0:Nat)+(sal (o (↑z:Int).toNat).toNat).1.toNat*(2:Nat)+(0:Nat)) - cellZ ((SRow.v (6:Nat) (SV.agg (setZ IntKind.i64 ((0:Nat)+(o (↑z:Int).toNat).toNat*Nat.succ (0:Nat)) (min (cellZ (gdV (seS sal o L z).l).cells ((0:Nat)+(sal (o (↑z:Int).toNat).toNat).good.toNat*Nat.succ (1:Nat)+(0:Nat))) (sal (o (↑z:Int).toNat).toNat).most) (soC (seS sal o L z).s) (0:Nat)))).f (0:Nat)).cells
((0:Nat)+(o (↑z:Int).toNat).toNat*(1:Nat)) else ((seS sal o L z).l (0:Nat)).2)=((seS sal o L z_1).l (0:Nat)).2∧(if (0:Nat)+(sal (o (↑z:Int).toNat).toNat).1.toNat*(2:Nat)+(0:Nat)=(0:Nat)+(1:Nat)+(1:Nat) then cellZ (gdV (seS sal o L z).l).cells ((0:Nat)+(sal (o (↑z:Int).toNat).toNat).1.toNat*(2:Nat)+(0:Nat)) - cellZ ((SRow.v (6:Nat) (SV.agg (setZ IntKind.i64 ((0:Nat)+(o (↑z:Int).toNat).toNat*Nat.succ (0:Nat)) (min (cellZ (gdV (seS sal o L z).l).cells ((0:Nat)+(sal (o (↑z:Int).toNat).toNat).good.toNat*Nat.succ (1:Nat)+(0:Nat))) (sal (o (↑z:Int).toNat).toNat).most) (soC (seS sal o L z).s) (0:Nat)))).f (0:Nat)).cells ((0:Nat)+(o (↑z:Int).toNat).toNat*(1:Nat)) else ((seS sal o L z).l (1:Nat)).1)=((seS sal o L z_1).l (1:Nat)).1∧(if (0:Nat)+(sal (o (↑z:Int).toNat).toNat).1.toNat*(2
: Nat)+(0:Nat)=(0:Nat)+(1:Nat)+(1:Nat)+(1:Nat) then cellZ (gdV (seS sal o L z).l).cells ((0:Nat)+(sal (o (↑z:Int).toNat).toNat).1.toNat*(2:Nat)+(0:Nat)) - cellZ ((SRow.v (6:Nat) (SV.agg (setZ IntKind.i64 ((0:Nat)+(o (↑z:Int).toNat).toNat*Nat.succ (0:Nat)) (min (cellZ (gdV (seS sal o L z).l).cells ((0:Nat)+(sal (o (↑z:Int).toNat).toNat).good.toNat*Nat.succ (1:Nat)+(0:Nat))) (sal (o (↑z:Int).toNat).toNat).most) (soC (seS sal o L z).s) (0:Nat)))).f (0:Nat)).cells ((0:Nat)+(o (↑z:Int).toNat).toNat*(1:Nat)) else ((seS sal o L z).l (1:Nat)).2)=((seS sal o L z_1).l (1:Nat)).2∧(if (0:Nat)+(sal (o (↑z:Int).toNat).toNat).1.toNat*(2:Nat)+(0:Nat)=(0:Nat)+(1:Nat)+(1:Nat)+(1:Nat)+(1:Nat) then cellZ (gdV (seS sal o L z).l).cells ((0:Nat)+(sal (o (↑z:Int).toNat).toNat).1.toNat*(2
: Nat)+(0:Nat)) - cellZ ((SRow.v (6:Nat) (SV.agg (setZ IntKind.i64 ((0:Nat)+(o (↑z:Int).toNat).toNat*Nat.succ (0:Nat)) (min (cellZ (gdV (seS sal o L z).l).cells ((0:Nat)+(sal (o (↑z:Int).toNat).toNat).good.toNat*Nat.succ (1:Nat)+(0:Nat))) (sal (o (↑z:Int).toNat).toNat).most) (soC (seS sal o L z).s) (0:Nat)))).f (0:Nat)).cells ((0:Nat)+(o (↑z:Int).toNat).toNat*(1:Nat)) else ((seS sal o L z).l (2:Nat)).1)=((seS sal o L z_1).l (2:Nat)).1∧(if (0:Nat)+(sal (o (↑z:Int).toNat).toNat).1.toNat*(2:Nat)+(0:Nat)=(0:Nat)+(1:Nat)+(1:Nat)+(1:Nat)+(1:Nat)+(1:Nat) then cellZ (gdV (seS sal o L z).l).cells ((0:Nat)+(sal (o (↑z:Int).toNat).toNat).1.toNat*(2:Nat)+(0:Nat)) - cellZ ((SRow.v (6:Nat) (SV.agg (setZ IntKind.i64 ((0:Nat)+(o (↑z:Int).toNat).toNat*Nat.succ (0:Nat)) (min (cellZ (gdV (seS
sal o L z).l).cells ((0:Nat)+(sal (o (↑z:Int).toNat).toNat).good.toNat*Nat.succ (1:Nat)+(0:Nat))) (sal (o (↑z:Int).toNat).toNat).most) (soC (seS sal o L z).s) (0:Nat)))).f (0:Nat)).cells ((0:Nat)+(o (↑z:Int).toNat).toNat*(1:Nat)) else ((seS sal o L z).l (2:Nat)).2)=((seS sal o L z_1).l (2:Nat)).2∧(if (0:Nat)+(sal (o (↑z:Int).toNat).toNat).1.toNat*(2:Nat)+(0:Nat)=(0:Nat)+(1:Nat)+(1:Nat)+(1:Nat)+(1:Nat)+(1:Nat)+(1:Nat) then cellZ (gdV (seS sal o L z).l).cells ((0:Nat)+(sal (o (↑z:Int).toNat).toNat).1.toNat*(2:Nat)+(0:Nat)) - cellZ ((SRow.v (6:Nat) (SV.agg (setZ IntKind.i64 ((0:Nat)+(o (↑z:Int).toNat).toNat*Nat.succ (0:Nat)) (min (cellZ (gdV (seS sal o L z).l).cells ((0:Nat)+(sal (o (↑z:Int).toNat).toNat).good.toNat*Nat.succ (1:Nat)+(0:Nat))) (sal (o (↑z:Int).toNat).toNat).most)
(soC (seS sal o L z).s) (0:Nat)))).f (0:Nat)).cells ((0:Nat)+(o (↑z:Int).toNat).toNat*(1:Nat)) else ((seS sal o L z).l (3:Nat)).1)=((seS sal o L z_1).l (3:Nat)).1∧(if (0:Nat)+(sal (o (↑z:Int).toNat).toNat).1.toNat*(2:Nat)+(0:Nat)=(0:Nat)+(1:Nat)+(1:Nat)+(1:Nat)+(1:Nat)+(1:Nat)+(1:Nat)+(1:Nat) then cellZ (gdV (seS sal o L z).l).cells ((0:Nat)+(sal (o (↑z:Int).toNat).toNat).1.toNat*(2:Nat)+(0:Nat)) - cellZ ((SRow.v (6:Nat) (SV.agg (setZ IntKind.i64 ((0:Nat)+(o (↑z:Int).toNat).toNat*Nat.succ (0:Nat)) (min (cellZ (gdV (seS sal o L z).l).cells ((0:Nat)+(sal (o (↑z:Int).toNat).toNat).good.toNat*Nat.succ (1:Nat)+(0:Nat))) (sal (o (↑z:Int).toNat).toNat).most) (soC (seS sal o L z).s) (0:Nat)))).f (0:Nat)).cells ((0:Nat)+(o (↑z:Int).toNat).toNat*(1:Nat)) else ((seS sal o L z).l
(3:Nat)).2)=((seS sal o L z_1).l (3:Nat)).2∧(if (0:Nat)+(sal (o (↑z:Int).toNat).toNat).1.toNat*(2:Nat)+(0:Nat)=(0:Nat)+(1:Nat)+(1:Nat)+(1:Nat)+(1:Nat)+(1:Nat)+(1:Nat)+(1:Nat)+(1:Nat) then cellZ (gdV (seS sal o L z).l).cells ((0:Nat)+(sal (o (↑z:Int).toNat).toNat).1.toNat*(2:Nat)+(0:Nat)) - cellZ ((SRow.v (6:Nat) (SV.agg (setZ IntKind.i64 ((0:Nat)+(o (↑z:Int).toNat).toNat*Nat.succ (0:Nat)) (min (cellZ (gdV (seS sal o L z).l).cells ((0:Nat)+(sal (o (↑z:Int).toNat).toNat).good.toNat*Nat.succ (1:Nat)+(0:Nat))) (sal (o (↑z:Int).toNat).toNat).most) (soC (seS sal o L z).s) (0:Nat)))).f (0:Nat)).cells ((0:Nat)+(o (↑z:Int).toNat).toNat*(1:Nat)) else ((seS sal o L z).l (4:Nat)).1)=((seS sal o L z_1).l (4:Nat)).1∧(if (0:Nat)+(sal (o (↑z:Int).toNat).toNat).1.toNat*(2:Nat)
+ (0:Nat)=(0:Nat)+(1:Nat)+(1:Nat)+(1:Nat)+(1:Nat)+(1:Nat)+(1:Nat)+(1:Nat)+(1:Nat)+(1:Nat) then cellZ (gdV (seS sal o L z).l).cells ((0:Nat)+(sal (o (↑z:Int).toNat).toNat).1.toNat*(2:Nat)+(0:Nat)) - cellZ ((SRow.v (6:Nat) (SV.agg (setZ IntKind.i64 ((0:Nat)+(o (↑z:Int).toNat).toNat*Nat.succ (0:Nat)) (min (cellZ (gdV (seS sal o L z).l).cells ((0:Nat)+(sal (o (↑z:Int).toNat).toNat).good.toNat*Nat.succ (1:Nat)+(0:Nat))) (sal (o (↑z:Int).toNat).toNat).most) (soC (seS sal o L z).s) (0:Nat)))).f (0:Nat)).cells ((0:Nat)+(o (↑z:Int).toNat).toNat*(1:Nat)) else ((seS sal o L z).l (4:Nat)).2)=((seS sal o L z_1).l (4:Nat)).2∧(if (0:Nat)+(sal (o (↑z:Int).toNat).toNat).1.toNat*(2:Nat)+(0:Nat)=(0:Nat)+(1:Nat)+(1:Nat)+(1:Nat)+(1:Nat)+(1:Nat)+(1:Nat)+(1:Nat)
+ (1:Nat)+(1:Nat)+(1:Nat) then cellZ (gdV (seS sal o L z).l).cells ((0:Nat)+(sal (o (↑z:Int).toNat).toNat).1.toNat*(2:Nat)+(0:Nat)) - cellZ ((SRow.v (6:Nat) (SV.agg (setZ IntKind.i64 ((0:Nat)+(o (↑z:Int).toNat).toNat*Nat.succ (0:Nat)) (min (cellZ (gdV (seS sal o L z).l).cells ((0:Nat)+(sal (o (↑z:Int).toNat).toNat).good.toNat*Nat.succ (1:Nat)+(0:Nat))) (sal (o (↑z:Int).toNat).toNat).most) (soC (seS sal o L z).s) (0:Nat)))).f (0:Nat)).cells ((0:Nat)+(o (↑z:Int).toNat).toNat*(1:Nat)) else ((seS sal o L z).l (5:Nat)).1)=((seS sal o L z_1).l (5:Nat)).1∧(if (0:Nat)+(sal (o (↑z:Int).toNat).toNat).1.toNat*(2:Nat)+(0:Nat)=(0:Nat)+(1:Nat)+(1:Nat)+(1:Nat)+(1:Nat)+(1:Nat)+(1:Nat)+(1:Nat)+(1:Nat)+(1:Nat)+(1:Nat)+(1:Nat) then cellZ (gdV (seS sal o L z).l).cells ((0 :
Nat)+(sal (o (↑z:Int).toNat).toNat).1.toNat*(2:Nat)+(0:Nat)) - cellZ ((SRow.v (6:Nat) (SV.agg (setZ IntKind.i64 ((0:Nat)+(o (↑z:Int).toNat).toNat*Nat.succ (0:Nat)) (min (cellZ (gdV (seS sal o L z).l).cells ((0:Nat)+(sal (o (↑z:Int).toNat).toNat).good.toNat*Nat.succ (1:Nat)+(0:Nat))) (sal (o (↑z:Int).toNat).toNat).most) (soC (seS sal o L z).s) (0:Nat)))).f (0:Nat)).cells ((0:Nat)+(o (↑z:Int).toNat).toNat*(1:Nat)) else ((seS sal o L z).l (5:Nat)).2)=((seS sal o L z_1).l (5:Nat)).2∧(if (0:Nat)+(o (↑z:Int).toNat).toNat*(1:Nat)=(0:Nat) then min (cellZ (gdV (seS sal o L z).l).cells ((0:Nat)+(sal (o (↑z:Int).toNat).toNat).1.toNat*(2:Nat)+(0:Nat))) (sal (o (↑z:Int).toNat).toNat).2 else (seS sal o L z).2 (0:Nat))=(seS sal o L z_1).2 (0:Nat)∧(if (0:Nat)+(o (↑z:Int).toNat).toNat*(1:Nat)=(0
: Nat)+(1:Nat) then min (cellZ (gdV (seS sal o L z).l).cells ((0:Nat)+(sal (o (↑z:Int).toNat).toNat).1.toNat*(2:Nat)+(0:Nat))) (sal (o (↑z:Int).toNat).toNat).2 else (seS sal o L z).2 (1:Nat))=(seS sal o L z_1).2 (1:Nat)∧(if (0:Nat)+(o (↑z:Int).toNat).toNat*(1:Nat)=(0:Nat)+(1:Nat)+(1:Nat) then min (cellZ (gdV (seS sal o L z).l).cells ((0:Nat)+(sal (o (↑z:Int).toNat).toNat).1.toNat*(2:Nat)+(0:Nat))) (sal (o (↑z:Int).toNat).toNat).2 else (seS sal o L z).2 (2:Nat))=(seS sal o L z_1).2 (2:Nat)∧(if (0:Nat)+(o (↑z:Int).toNat).toNat*(1:Nat)=(0:Nat)+(1:Nat)+(1:Nat)+(1:Nat) then min (cellZ (gdV (seS sal o L z).l).cells ((0:Nat)+(sal (o (↑z:Int).toNat).toNat).1.toNat*(2:Nat)+(0:Nat))) (sal (o (↑z:Int).toNat).toNat).2 else (seS sal o L z).2 (3:Nat))=(seS sal o L z_1).2 (3:Nat)∧(if
(0:Nat)+(o (↑z:Int).toNat).toNat*(1:Nat)=(0:Nat)+(1:Nat)+(1:Nat)+(1:Nat)+(1:Nat) then min (cellZ (gdV (seS sal o L z).l).cells ((0:Nat)+(sal (o (↑z:Int).toNat).toNat).1.toNat*(2:Nat)+(0:Nat))) (sal (o (↑z:Int).toNat).toNat).2 else (seS sal o L z).2 (4:Nat))=(seS sal o L z_1).2 (4:Nat)∧(if (0:Nat)+(o (↑z:Int).toNat).toNat*(1:Nat)=(0:Nat)+(1:Nat)+(1:Nat)+(1:Nat)+(1:Nat)+(1:Nat) then min (cellZ (gdV (seS sal o L z).l).cells ((0:Nat)+(sal (o (↑z:Int).toNat).toNat).1.toNat*(2:Nat)+(0:Nat))) (sal (o (↑z:Int).toNat).toNat).2 else (seS sal o L z).2 (5:Nat))=(seS sal o L z_1).2 (5:Nat)∧True)∧(¬(↑z:Int)<(↑q:Int)→(0:Nat)<(1:Nat)∧(0:Nat)<(1:Nat)∧(seS sal o L z).2 (0:Nat)=(seS sal o L q).2 (0:Nat)∧(seS sal o L z).2 (1:Nat)=(seS sal o L q).2 (1:Nat)∧(seS
sal o L z).2 (2:Nat)=(seS sal o L q).2 (2:Nat)∧(seS sal o L z).2 (3:Nat)=(seS sal o L q).2 (3:Nat)∧(seS sal o L z).2 (4:Nat)=(seS sal o L q).2 (4:Nat)∧(seS sal o L z).2 (5:Nat)=(seS sal o L q).2 (5:Nat)∧(seS sal o L z).3=(seS sal o L q).3∧True)):=by kernel_rfl
theorem inG_vc (Y:Yd) (n:Nat) (p:Nat→Int):inG Y n p=((0:Nat)<(1:Nat)∧(∀ (i:Nat),i<Y.1→True)∧(∀ (i:Nat),i<Y.3→True∧True∧(∀ (i_1:Nat),i_1<(Y.sti i).3→True∧True∧True)∧True∧True∧True)∧(∀ (i:Nat),i<Y.5→True∧True∧True∧True)∧(∀ (i:Nat),i<n→True)∧SV.agg [SV.lst (1:Nat) Y.g fun i=>i6 (Y.st i),SV.lst (5:Nat) Y.m fun i=>(Y.sti i).sv,SV.lst (3:Nat) Y.q fun i=>(Y.sal i).sv]=(ydOf Y.g (fun i=>i6 (Y.st i)) Y.m (fun i=>(Y.sti i).sv) Y.q fun i=>(Y.sal i).sv).sv∧(SV.lst (1:Nat) n fun i=>i6 (p i))=iL n (iOf fun i=>i6 (p i))∧(¬erP (ydOf Y.g (fun i=>i6 (Y.st i)) Y.m (fun i=>(Y.sti i).sv) Y.q fun i=>(Y.sal i).sv) n (iOf fun i=>i6 (p i))=(0:Int)→(0:Int)=inI Y n p∧(0:Nat)=inN Y n p∧erP (ydOf Y.g (fun i=>i6 (Y.st i)) Y.m (fun i=>(Y.sti i).sv) Y.q fun i=>(Y.sal i).sv)
n (iOf fun i=>i6 (p i))=erP Y n p∧True)∧(¬¬erP (ydOf Y.g (fun i=>i6 (Y.st i)) Y.m (fun i=>(Y.sti i).sv) Y.q fun i=>(Y.sal i).sv) n (iOf fun i=>i6 (p i))=(0:Int)→(0:Nat)<(1:Nat)∧(∀ (i:Nat),i<Y.5→True∧True∧True∧True)∧((SV.lst (3:Nat) Y.q fun i=>(Y.sal i).sv)=salL Y.q fun i=>salOf (Y.sal i).sv)∧Y.5≤(6:Nat)∧(0:Nat)<(1:Nat)∧(∀ (i:Nat),i<Y.5→True∧True∧True∧True)∧(∀ (i:Nat),i<Y.5→True)∧((SV.lst (3:Nat) Y.q fun i=>(salOf (Y.sal i).sv).sv)=salL Y.q fun i=>salOf (salOf (Y.sal i).sv).sv)∧(SV.lst (1:Nat) Y.q fun i=>i6 (stF (fun i=>salOf (Y.sal i).sv) Y.q i))=iL Y.q (iOf fun i=>i6 (stF (fun i=>salOf (Y.sal i).sv) Y.q i))∧Y.5=Y.5∧okOr Y.q (fun i=>salOf (salOf (Y.sal i).sv).sv) (iOf fun i=>i6 (stF (fun i=>salOf (Y.sal i).sv) Y.q i))∧bdG (10000000000:Int) (c6 ((plR (ydOf Y.g
(fun i=>i6 (Y.st i)) Y.m (fun i=>(Y.sti i).sv) Y.q fun i=>(Y.sal i).sv) n (iOf fun i=>i6 (p i))).l))∧(0:Nat)<(1:Nat)∧(0:Int)≤(↑Y.5:Int)∧(↑Y.5:Int)≤(↑Y.5:Int)∧(↑Y.5:Int)≤(1048576:Int)∧(↑Y.5:Int)*(↑(8:Nat):Int)≤(140737488355328:Int)∧(0:Int)≤(0:Int)∧(0:Int)≤(↑(6:Nat):Int)∧(↑(6:Nat):Int)≤(↑(6:Nat):Int)∧rE (0:Nat)∧rE ((↑Y.5:Int).toNat)∧(↑Y.5:Int).toNat≤((↑(6:Nat):Int) - (0:Int)).toNat∧(0:Nat)+((↑(6:Nat):Int) - (0:Int)).toNat≤(6:Nat)∧(0:Nat)<(1:Nat)∧rI ((seS (fun i=>salOf (salOf (Y.sal i).sv).sv) (iOf fun i=>i6 (stF (fun i=>salOf (Y.sal i).sv) Y.q i)) (c6 ((plR (ydOf Y.g (fun i=>i6 (Y.st i)) Y.m (fun i=>(Y.sti i).sv) Y.q fun i=>(Y.sal i).sv) n (iOf fun i=>i6 (p i))).l)) Y.q).3 - (plR (ydOf Y.g (fun i=>i6 (Y.st i)) Y.m (fun i=>(Y.sti i).sv) Y.q fun i
=> (Y.sal i).sv) n (iOf fun i=>i6 (p i))).3)∧(seS (fun i=>salOf (salOf (Y.sal i).sv).sv) (iOf fun i=>i6 (stF (fun i=>salOf (Y.sal i).sv) Y.q i)) (c6 ((plR (ydOf Y.g (fun i=>i6 (Y.st i)) Y.m (fun i=>(Y.sti i).sv) Y.q fun i=>(Y.sal i).sv) n (iOf fun i=>i6 (p i))).l)) Y.q).3 - (plR (ydOf Y.g (fun i=>i6 (Y.st i)) Y.m (fun i=>(Y.sti i).sv) Y.q fun i=>(Y.sal i).sv) n (iOf fun i=>i6 (p i))).3=inI Y n p∧(↑Y.5:Int).toNat=inN Y n p∧(0:Nat)+inN Y n p≤(↑Y.5:Int).toNat∧(∀ (i:Nat),i<inN Y n p→rE (1:Nat)∧rE (1:Nat)∧cellZ [SV.int IntKind.i64 ((seS (fun i=>salOf (salOf (Y.sal i).sv).sv) (iOf fun i=>i6 (stF (fun i=>salOf (Y.sal i).sv) Y.q i)) (c6 ((plR (ydOf Y.g (fun i=>i6 (Y.st i)) Y.m (fun i=>(Y.sti i).sv) Y.q fun i=>(Y.sal i).sv) n (iOf fun i=>i6 (p i))).l)) Y.q).s (0:Nat)),SV.int IntKind.i64 ((seS (fun i=>salOf (salOf (Y.sal
i).sv).sv) (iOf fun i=>i6 (stF (fun i=>salOf (Y.sal i).sv) Y.q i)) (c6 ((plR (ydOf Y.g (fun i=>i6 (Y.st i)) Y.m (fun i=>(Y.sti i).sv) Y.q fun i=>(Y.sal i).sv) n (iOf fun i=>i6 (p i))).l)) Y.q).s (1:Nat)),SV.int IntKind.i64 ((seS (fun i=>salOf (salOf (Y.sal i).sv).sv) (iOf fun i=>i6 (stF (fun i=>salOf (Y.sal i).sv) Y.q i)) (c6 ((plR (ydOf Y.g (fun i=>i6 (Y.st i)) Y.m (fun i=>(Y.sti i).sv) Y.q fun i=>(Y.sal i).sv) n (iOf fun i=>i6 (p i))).l)) Y.q).s (2:Nat)),SV.int IntKind.i64 ((seS (fun i=>salOf (salOf (Y.sal i).sv).sv) (iOf fun i=>i6 (stF (fun i=>salOf (Y.sal i).sv) Y.q i)) (c6 ((plR (ydOf Y.g (fun i=>i6 (Y.st i)) Y.m (fun i=>(Y.sti i).sv) Y.q fun i=>(Y.sal i).sv) n (iOf fun i=>i6 (p i))).l)) Y.q).s (3:Nat)),SV.int IntKind.i64 ((seS (fun i=>salOf (salOf (Y.sal i).sv).sv) (iOf fun i=>i6 (stF (fun i=>salOf (Y.sal i).sv) Y.q i)) (c6 ((plR
(ydOf Y.g (fun i=>i6 (Y.st i)) Y.m (fun i=>(Y.sti i).sv) Y.q fun i=>(Y.sal i).sv) n (iOf fun i=>i6 (p i))).l)) Y.q).s (4:Nat)),SV.int IntKind.i64 ((seS (fun i=>salOf (salOf (Y.sal i).sv).sv) (iOf fun i=>i6 (stF (fun i=>salOf (Y.sal i).sv) Y.q i)) (c6 ((plR (ydOf Y.g (fun i=>i6 (Y.st i)) Y.m (fun i=>(Y.sti i).sv) Y.q fun i=>(Y.sal i).sv) n (iOf fun i=>i6 (p i))).l)) Y.q).s (5:Nat))] ((0:Nat)+(i+(0:Nat)))=(inS Y p).2 i∧True)∧(0:Int)=erP Y n p∧True)):=by kernel_rfl
end Go.Proofs.Ytbedomoilakcaaa

namespace Go.Proofs.Ytbedomoilakcaaa
open Go Go.Lg
theorem sv_cells (l:List SV):((SRow.v 6 (SV.agg l)).f 0).cells=l:=rfl
theorem soV_cells (f:Nat→Int):(soV f).cells=soC f:=rfl
theorem sc0:Nat.succ (0:Nat)=1:=rfl
end Go.Proofs.Ytbedomoilakcaaa

set_option maxRecDepth 100000
namespace Go.Proofs.Ytbedomoilakcaaa
open Go Go.Lg
attribute [local irreducible] funS bodyH
theorem cz_set {f:Nat→Int} {j:Nat} {v:Int} (h:j<6):cellZ (setZ .i64 j v (soC f) 0) j=v:=by
 have:j=0∨j=1∨j=2∨j=3∨j=4∨j=5:=by omega
 rcases this with rfl | rfl | rfl | rfl | rfl | rfl <;> rfl
theorem cz_so {f:Nat→Int} {j:Nat} (h:j<6):cellZ (soC f) j=f j:=by
 have:j=0∨j=1∨j=2∨j=3∨j=4∨j=5:=by omega
 rcases this with rfl | rfl | rfl | rfl | rfl | rfl <;> rfl
theorem se_bd {q:Nat} {sal:Nat→Sal} {o:Nat→Int} {L:Nat→Tw} (ho:okOr q sal o) (hL:bdG 10000000000 L):∀ k,k≤q→bdG 10000000000 (seS sal o L k).l∧-(10000000000000000*(k:Int))≤(seS sal o L k).c∧(seS sal o L k).c≤10000000000000000*(k:Int)
 | 0,_=>⟨hL,by show -(10000000000000000*((0:Nat):Int))≤0; omega,by show (0:Int)≤10000000000000000*((0:Nat):Int); omega⟩
 | k+1,hk=>by
  obtain ⟨h1,h2,h3⟩:=se_bd ho hL k (by omega)
  have b:=ho.b k (by omega)
  have hs:=ho.s.b (o k).toNat (by omega)
  have g0:=hs.g0
  have g1:=hs.g1
  have m0:=hs.m0
  have m1:=hs.m1
  have l:=h1 (sal (o k).toNat).good.toNat (by omega)
  have av:-10000000000≤ssA sal (seS sal o L k) (o k)∧ssA sal (seS sal o L k) (o k)≤10000000000:=by unfold ssA; omega
  refine ⟨fun i hi=>?_,?_⟩
  ·have hi':=h1 i hi
   by_cases e:i=(sal (o k).toNat).good.toNat
   ·have el:(seS sal o L (k+1)).l i=⟨((seS sal o L k).l i).lo - ssA sal (seS sal o L k) (o k),((seS sal o L k).l i).hi⟩:=by simp only [seS,ssN,if_pos e]
    rw [el]
    unfold ssA
    rw [← e]
    simp only
    omega
   ·have el:(seS sal o L (k+1)).l i=(seS sal o L k).l i:=by simp only [seS,ssN,if_neg e]
    rw [el]; exact hi'
  ·have p:=mul_bd (a:=ssA sal (seS sal o L k) (o k)+10000000000) (A:=20000000000) (by omega) (by omega) hs.p0 hs.p1
   have p2:=mul_bd (a:=10000000000 - ssA sal (seS sal o L k) (o k)) (A:=20000000000) (by omega) (by omega) hs.p0 hs.p1
   rw [Int.add_mul] at p
   rw [Int.sub_mul] at p2
   have p0:=hs.p0
   have p1:=hs.p1
   show _≤(seS sal o L k).c+ssA sal (seS sal o L k) (o k)*(sal (o k).toNat).price∧(seS sal o L k).c+ssA sal (seS sal o L k) (o k)*(sal (o k).toNat).price≤_
   push_cast
   omega
theorem slo {F G:Nat→Tw} {z:Nat} {v:Int} (h1:(G z).lo=v) (ho:∀ i,i≠z→G i=F i) (c d:Nat) (hd:d=2*c):(if z*2=d then v else (F c).lo)=(G c).lo:=by
 by_cases e:c=z
 ·subst e; rw [if_pos (by omega),h1]
 ·rw [if_neg (by omega),ho c e]
theorem shi {F G:Nat→Tw} {z:Nat} {v:Int} (h1:(G z).hi=(F z).hi) (ho:∀ i,i≠z→G i=F i) (c d:Nat) (hd:d=2*c+1):(if z*2=d then v else (F c).hi)=(G c).hi:=by
 rw [if_neg (by omega)]
 by_cases e:c=z
 ·subst e; rw [h1]
 ·rw [ho c e]
theorem se_true {q:Nat} {sal:Nat→Sal} {o:Nat→Int} {L:Nat→Tw} (ho:okOr q sal o) (hL:bdG 10000000000 L):seG q sal o L:=by
 rw [seG_vc]
 simp only [rI,rE,tt3,tt4,tt5,tt13,tt14,rI,rE,tt3,tt4,tt5,tt13,tt14,and_true,true_and,Nat.zero_lt_one,and_self,implies_true,Int.toNat_natCast,Nat.zero_add,Nat.add_zero,Nat.one_mul,Nat.mul_one,Classical.not_not,iff_self,Bool.false_eq_true,imp_false,and_imp,true_implies,forall_const,gdV_cells,sc1,sc0,sv_cells,soV_cells]
 refine ⟨⟨0,by omega,rfl,rfl,rfl,rfl,rfl,rfl,rfl,rfl,rfl,rfl,rfl,rfl,rfl,rfl,rfl,rfl,rfl,rfl,rfl,rfl⟩,fun z hz=>⟨fun hl=>?_,fun hl=>?_⟩⟩
 ·have b:=ho.b z (by omega)
  have q6:=ho.a
  have hs:=ho.s.b (o z).toNat (by omega)
  have g0:=hs.g0
  have g1:=hs.g1
  have m0:=hs.m0
  have m1:=hs.m1
  obtain ⟨h1,h2,h3⟩:=se_bd ho hL z (by omega)
  have h4:=(se_bd ho hL (z+1) (by omega)).2
  have lb:=h1 (sal (o z).toNat).good.toNat (by omega)
  rw [cz_set (by omega:(o z).toNat<6),cz_lo _ (by omega:(sal (o z).toNat).good.toNat<6)]
  have ea:min ((seS sal o L z).l (sal (o z).toNat).good.toNat).lo (sal (o z).toNat).most=ssA sal (seS sal o L z) (o z):=rfl
  rw [ea]
  have ec:(seS sal o L z).c+ssA sal (seS sal o L z) (o z)*(sal (o z).toNat).price=(seS sal o L (z+1)).c:=rfl
  have p:=mul_bd (a:=ssA sal (seS sal o L z) (o z)+10000000000) (A:=20000000000) (by unfold ssA; omega) (by unfold ssA; omega) hs.p0 hs.p1
  rw [Int.add_mul] at p
  have p0:=hs.p0
  have p1:=hs.p1
  rw [ec]
  have el:((seS sal o L (z+1)).l (sal (o z).toNat).good.toNat)=⟨((seS sal o L z).l (sal (o z).toNat).good.toNat).lo - ssA sal (seS sal o L z) (o z),((seS sal o L z).l (sal (o z).toNat).good.toNat).hi⟩:=by
   simp only [seS,ssN,if_true]
  have en:∀ i,i≠(sal (o z).toNat).good.toNat→(seS sal o L (z+1)).l i=(seS sal o L z).l i:=fun i hi=>by simp only [seS,ssN,if_neg hi]
  have e1:((seS sal o L (z+1)).l (sal (o z).toNat).good.toNat).lo=((seS sal o L z).l (sal (o z).toNat).good.toNat).lo - ssA sal (seS sal o L z) (o z):=by rw [el]
  have e2:((seS sal o L (z+1)).l (sal (o z).toNat).good.toNat).hi=((seS sal o L z).l (sal (o z).toNat).good.toNat).hi:=by rw [el]
  have av:-10000000000≤ssA sal (seS sal o L z) (o z)∧ssA sal (seS sal o L z) (o z)≤1048576:=by unfold ssA; omega
  have es:∀ d c:Nat,d=c→(if (o z).toNat=d then ssA sal (seS sal o L z) (o z) else (seS sal o L z).s c)=(seS sal o L (z+1)).s c:=fun d c e=>by
   subst e
   simp only [seS,ssN]
   by_cases h:(o z).toNat=d
   ·rw [if_pos h,if_pos h.symm]
   ·rw [if_neg h,if_neg fun e=>h e.symm]
  refine ⟨by omega,hl,b.1,b.2,by omega,by omega,by omega,by omega,by omega,by omega,by omega,by omega,by omega,by omega,by omega,by omega,by omega,by omega,by omega,by omega,by omega,by omega,by omega,by omega,by omega,by omega,z+1,by omega,by omega,rfl,by omega,slo e1 en 0 _ rfl,shi e2 en 0 _ rfl,slo e1 en 1 _ rfl,shi e2 en 1 _ rfl,slo e1 en 2 _ rfl,shi e2 en 2 _ rfl,slo e1 en 3 _ rfl,shi e2 en 3 _ rfl,slo e1 en 4 _ rfl,shi e2 en 4 _ rfl,slo e1 en 5 _ rfl,shi e2 en 5 _ rfl,es _ 0 rfl,es _ 1 rfl,es _ 2 rfl,es _ 3 rfl,es _ 4 rfl,es _ 5 rfl⟩
 ·have:z=q:=by omega
  subst this
  exact ⟨rfl,rfl,rfl,rfl,rfl,rfl,rfl⟩
theorem se_ok:seC.Ok Try.prog:=by
 refine ⟨by kernel_rfl,fun x k hk=>?_⟩
 simp only [seC] at hk
 split at hk
 ·rename_i q sal n o v
  obtain ⟨L,rfl,hf,hp,rfl,h1,h2,hk⟩:=gdK_spec hk
  have hh:=se_true h1 h2
  unfold seG at hh
  rw [← hf,← hp] at hh
  exact ⟨_,plainD nilS_cs nilS_x nilS_ic hh (by simp [plainS,plainS.plainL,soV,soC]),hk⟩
 ·exact hk.elim
theorem se_congr {q:Nat} {sal:Nat→Sal} {o:Nat→Int} {L L':Nat→Tw} (ho:okOr q sal o) (h:∀ i,i<6→L i=L' i):∀ k,k≤q→(∀ i,i<6→(seS sal o L k).l i=(seS sal o L' k).l i)∧(seS sal o L k).s=(seS sal o L' k).s∧(seS sal o L k).c=(seS sal o L' k).c
 | 0,_=>⟨h,rfl,rfl⟩
 | k+1,hk=>by
  obtain ⟨h1,h2,h3⟩:=se_congr ho h k (by omega)
  have b:=ho.b k (by omega)
  have hs:=ho.s.b (o k).toNat (by omega)
  have g0:=hs.g0
  have g1:=hs.g1
  have ea:ssA sal (seS sal o L k) (o k)=ssA sal (seS sal o L' k) (o k):=by unfold ssA; rw [h1 _ (by omega)]
  refine ⟨fun i hi=>?_,?_,?_⟩
  ·simp only [seS,ssN,ea,h1 i hi]
  ·simp only [seS,ssN,ea,h2]
  ·simp only [seS,ssN,ea,h3]
theorem or_of {Y:Yd} (h:okYd Y):okOr Y.q Y.sal (stF Y.sal Y.q):=by
 refine ⟨h.l.a,fun k hk=>stF_bd Y.q (Nat.le_refl _) k hk,h.l.a,fun i hi=>?_⟩
 have s:=h.l.b i hi
 have:=h.g.b
 exact ⟨s.g0,by have:=s.g1; omega,s.m0,s.m1,s.p0,s.p1⟩
theorem so_list (f:Nat→Int):[SV.int .i64 (f 0),SV.int .i64 (f 1),SV.int .i64 (f 2),SV.int .i64 (f 3),SV.int .i64 (f 4),SV.int .i64 (f 5)]=soC f:=rfl
theorem in_true (Y:Yd) (n:Nat) (p:Nat→Int):inG Y n p:=by
 rw [inG_vc]
 simp only [rI,rE,tt3,tt4,tt5,tt13,tt14,rI,rE,tt3,tt4,tt5,tt13,tt14,and_true,true_and,Nat.zero_lt_one,and_self,implies_true,Int.toNat_natCast,Nat.zero_add,Nat.add_zero,Nat.one_mul,Nat.mul_one,Classical.not_not,iff_self,Bool.false_eq_true,imp_false,and_imp,true_implies,forall_const,gdV_cells,sc1,sc0,sv_cells,soV_cells,ft_fold,sti_fold,sal_fold,yd_fold,iOf_fold,stiOf_fold,salOf_fold,yv_fold]
 refine ⟨rfl,fun h=>⟨by rw [inI,if_neg h],by rw [inN,if_neg h]⟩,fun h=>?_⟩
 obtain ⟨h1,h2,h3⟩:=erP_ok h
 have ho:=or_of h1
 have hb:=pl_bd h1 h2 Y.m (Nat.le_refl _)
 have hma:=h1.s.a
 have hb1:bdG 10000000000 (plX Y p Y.m).l:=bd_mono hb.1 (by omega)
 have er:plR Y n p=plX Y p Y.m:=by rw [plR,if_pos h]
 rw [er]
 obtain ⟨-,e1,e2⟩:=se_congr (L:=c6 (plX Y p Y.m).l) (L':=(plX Y p Y.m).l) ho (fun i hi=>c6_eq hi) Y.q (Nat.le_refl _)
 have e0:inS Y p=seS Y.sal (stF Y.sal Y.q) (plX Y p Y.m).l Y.q:=rfl
 have e4:inI Y n p=(inS Y p).c - (plX Y p Y.m).c:=by rw [inI,if_pos h]
 have e5:inN Y n p=Y.q:=by rw [inN,if_pos h]
 simp only [e1,e2,so_list,← e0,e4,e5]
 have cb:=(se_bd ho hb1 Y.q (Nat.le_refl _)).2
 rw [← e0] at cb
 have q6:=h1.l.a
 have cc:=hb.2
 refine ⟨rfl,q6,rfl,rfl,ho,bd_c6 hb1,by omega,by omega,by omega,by omega,by omega,by omega,by omega,by omega,by omega,by omega,trivial,trivial,by omega,fun i hi=>cz_so (by omega),h.symm⟩
theorem csI_sound:SoundS Try.prog csI:=ctrsF_sound (two_cs py_ok se_ok) (by intro x hx; simp at hx; subst hx; exact nm_ok)
theorem in_ok:inC.Ok Try.prog:=by
 refine ⟨by kernel_rfl,fun x k hk=>?_⟩
 simp only [inC] at hk
 split at hk
 ·rename_i g st m sti q sal n p
  obtain ⟨hf,hp,hk⟩:=hk
  have hh:=in_true (ydOf g st m sti q sal) n (iOf p)
  unfold inG at hh
  rw [← hf,← hp] at hh
  exact ⟨_,newD csI_sound nilS_x nilS_ic hh (by simp [flatS,flatSL,scS,SV.cells,iA,inR]),hk⟩
 ·exact hk.elim
end Go.Proofs.Ytbedomoilakcaaa
