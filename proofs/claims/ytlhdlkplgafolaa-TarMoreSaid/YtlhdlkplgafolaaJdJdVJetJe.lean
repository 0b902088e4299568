import Derived.Test.YtlhdlkplgafolaaJaJaVJbTJb
set_option linter.unusedVariables false
set_option linter.unusedSimpArgs false
namespace Go.Proofs.Ytlhdlkplgafolaa
open Go Go.Lg
attribute [local irreducible] bodyH funS
def gdC (f:Nat→Tw):List SV:=[i6 (f 0).lo,i6 (f 0).hi,i6 (f 1).lo,i6 (f 1).hi,i6 (f 2).lo,i6 (f 2).hi,i6 (f 3).lo,i6 (f 3).hi,i6 (f 4).lo,i6 (f 4).hi,i6 (f 5).lo,i6 (f 5).hi]
def gdV (f:Nat→Tw):SV:=.agg (gdC f)
def mk6 (a0 b0 a1 b1 a2 b2 a3 b3 a4 b4 a5 b5:Int):Nat→Tw
 | 0=>⟨a0,b0⟩
 | 1=>⟨a1,b1⟩
 | 2=>⟨a2,b2⟩
 | 3=>⟨a3,b3⟩
 | 4=>⟨a4,b4⟩
 | 5=>⟨a5,b5⟩
 | _=>⟨0,0⟩
def mk4 (a b c d:Int):Nat→Int
 | 0=>a
 | 1=>b
 | 2=>c
 | 3=>d
 | _=>0
def gdK (v:SV) (k:(Nat→Tw)→Prop):Prop:=match v with
 | .agg [.int .i64 a0,.int .i64 b0,.int .i64 a1,.int .i64 b1,.int .i64 a2,.int .i64 b2,.int .i64 a3,.int .i64 b3,.int .i64 a4,.int .i64 b4,.int .i64 a5,.int .i64 b5]=>k (mk6 a0 b0 a1 b1 a2 b2 a3 b3 a4 b4 a5 b5)
 | _=>False
def zG:Nat→Tw:=fun _=>⟨0,0⟩
def c6 (f:Nat→Tw):Nat→Tw:=mk6 (f 0).lo (f 0).hi (f 1).lo (f 1).hi (f 2).lo (f 2).hi (f 3).lo (f 3).hi (f 4).lo (f 4).hi (f 5).lo (f 5).hi
def adG (A B:Nat→Tw):Nat→Tw:=fun i=>⟨(A i).lo+(B i).lo,(A i).hi+(B i).hi⟩
def bdG (b:Int) (A:Nat→Tw):Prop:=∀ i,i<6→(-b≤(A i).lo∧(A i).lo≤b)∧(-b≤(A i).hi∧(A i).hi≤b)
def exC:Ctr:=⟨47,fun args k=>match args with
 | [.int .i64 n]=>k (.agg [i6 n,i6 n])
 | _=>False⟩
noncomputable def exG (n:Int):Prop:=funH Try.prog (ctrs []) noX (ictrs []) noL noL 47 [i6 n] (.agg [i6 n,i6 n])
def tiC:Ctr:=⟨60,fun args k=>match args with
 | [.agg [.int .i64 a,.int .i64 b],.int .i64 n]=>(rI (n*a)∧rI (n*b))∧k (.agg [i6 (n*a),i6 (n*b)])
 | _=>False⟩
noncomputable def tiG (a b n:Int):Prop:=funH Try.prog (ctrs []) noX (ictrs []) noL noL 60 [.agg [i6 a,i6 b],i6 n] (.agg [i6 (n*a),i6 (n*b)])
def gpC:Ctr:=⟨79,fun args k=>match args with
 | [x,y]=>gdK x fun A=>gdK y fun B=>(bdG 1000000000000 A∧bdG 1000000000000 B)∧k (gdV (adG A B))
 | _=>False⟩
def upG (A B:Nat→Tw) (k:Nat):Nat→Tw:=fun i=>if i<k then adG A B i else A i
noncomputable def gpG (A B:Nat→Tw):Prop:=funH Try.prog (ctrs [plC]) noX (ictrs [])
 (oneL 0 (natH (fun k=>k≤6) (fun k=>6 - k) 3 (fun k=>mkF 21 [(2,.ptr 0 0 0),(3,.ptr 1 0 0),(4,.ptr 2 0 0),(7,gdV B),(8,i6 k)]) (fun k=>mkX [vr 12 (gdV (upG A B k)),vr 12 (gdV B),vr 12 (gdV zG)]) fun _=>none)) noL
 79 [gdV A,gdV B] (gdV (adG A B))
def three (a b c:SV):Nat→SV
 | 0=>a
 | 1=>b
 | _=>c
def sgC:Ctr:=⟨54,fun args k=>match args with
 | [.lst 12 n f]=>n=3∧gdK (f 0) fun A=>gdK (f 1) fun B=>gdK (f 2) fun C=>(bdG 100000000000 A∧bdG 100000000000 B∧bdG 100000000000 C)∧k (gdV (adG (adG (adG zG A) B) C))
 | _=>False⟩
noncomputable def sgG (A B C:Nat→Tw):Prop:=funH Try.prog (ctrs [gpC]) (numX noX) (ictrs []) (oneL 0 (unrH 4)) noL 54 [.lst 12 3 (three (gdV A) (gdV B) (gdV C))] (gdV (adG (adG (adG zG A) B) C))
structure okSt (s:Sti):Prop where
 i0:0≤s.inn
 i1:s.inn≤5
 t0:1≤s.takes
 t1:s.takes≤1048576
 n:s.on≤6
 o:∀ k,k<s.on→okSp 1048576 (s.out k).lo (s.out k).hi
 p0:0≤s.pay
 p1:s.pay≤1000000
def okT (t:Int):Prop:=0≤t∧t≤8
open Classical in
noncomputable def tkG (s:Sti) (t:Int):Nat→Tw:=fun i=>if (i:Int)=s.inn then ⟨(0 - t)*s.takes,(0 - t)*s.takes⟩ else ⟨0,0⟩
open Classical in
noncomputable def mdG (s:Sti) (t:Int) (k:Nat):Nat→Tw:=fun i=>if i<k then ⟨t*(s.out i).lo,t*(s.out i).hi⟩ else ⟨0,0⟩
noncomputable def tbC:Ctr:=⟨55,fun args k=>match args with
 | [.agg [.int .i64 a,.int .i64 b,.lst 2 n h,.int .i64 c,.int .i64 d],.int .i64 t]=>SV.lst 2 n h=twL n (ftOf h)∧okSt ⟨a,b,n,ftOf h,c,d⟩∧okT t∧k (gdV (tkG ⟨a,b,n,ftOf h,c,d⟩ t))
 | _=>False⟩
noncomputable def tbG (s:Sti) (t:Int):Prop:=funH Try.prog (ctrs [exC]) noX (ictrs []) noL noL 55 [s.sv,i6 t] (gdV (tkG s t))
noncomputable def mbC:Ctr:=⟨56,fun args k=>match args with
 | [.agg [.int .i64 a,.int .i64 b,.lst 2 n h,.int .i64 c,.int .i64 d],.int .i64 t]=>SV.lst 2 n h=twL n (ftOf h)∧okSt ⟨a,b,n,ftOf h,c,d⟩∧okT t∧k (gdV (mdG ⟨a,b,n,ftOf h,c,d⟩ t n))
 | _=>False⟩
noncomputable def mbG (s:Sti) (t:Int):Prop:=funH Try.prog (ctrs [tiC]) noX (ictrs [])
 (oneL 0 (natH (fun k=>k≤s.on) (fun k=>s.on - k) 3 (fun k=>mkF 23 [(2,.ptr 0 0 0),(1,i6 t),(4,.ptr 1 0 0),(5,.ptr 2 0 0),(9,twL s.on s.out),(10,i6 s.on),(11,i6 k)]) (fun k=>mkX [vr 5 s.sv,vr 12 (gdV zG),vr 12 (gdV (mdG s t k))]) fun _=>none)) noL
 56 [s.sv,i6 t] (gdV (mdG s t s.on))
structure Crs where
 p:Nat→Int
 l:Nat→Tw
 c:Int
def Crs.cells (c:Crs):List SV:=[i6 (c.p 0),i6 (c.p 1),i6 (c.p 2),i6 (c.p 3),i6 (c.l 0).lo,i6 (c.l 0).hi,i6 (c.l 1).lo,i6 (c.l 1).hi,i6 (c.l 2).lo,i6 (c.l 2).hi,i6 (c.l 3).lo,i6 (c.l 3).hi,i6 (c.l 4).lo,i6 (c.l 4).hi,i6 (c.l 5).lo,i6 (c.l 5).hi,i6 c.c]
def Crs.sv (c:Crs):SV:=.agg c.cells
def crK (v:SV) (k:Crs→Prop):Prop:=match v with
 | .agg [.int .i64 p0,.int .i64 p1,.int .i64 p2,.int .i64 p3,.int .i64 a0,.int .i64 b0,.int .i64 a1,.int .i64 b1,.int .i64 a2,.int .i64 b2,.int .i64 a3,.int .i64 b3,.int .i64 a4,.int .i64 b4,.int .i64 a5,.int .i64 b5,.int .i64 c]=>k ⟨mk4 p0 p1 p2 p3,mk6 a0 b0 a1 b1 a2 b2 a3 b3 a4 b4 a5 b5,c⟩
 | _=>False
def r17 (c:Crs):Crs:=⟨mk4 (c.p 0) (c.p 1) (c.p 2) (c.p 3),c6 c.l,c.c⟩
def e17 (c d:Crs) (r:Prop):Prop:=c.p 0=d.p 0∧c.p 1=d.p 1∧c.p 2=d.p 2∧c.p 3=d.p 3∧(c.l 0).lo=(d.l 0).lo∧(c.l 0).hi=(d.l 0).hi∧(c.l 1).lo=(d.l 1).lo∧(c.l 1).hi=(d.l 1).hi∧(c.l 2).lo=(d.l 2).lo∧(c.l 2).hi=(d.l 2).hi∧(c.l 3).lo=(d.l 3).lo∧(c.l 3).hi=(d.l 3).hi∧(c.l 4).lo=(d.l 4).lo∧(c.l 4).hi=(d.l 4).hi∧(c.l 5).lo=(d.l 5).lo∧(c.l 5).hi=(d.l 5).hi∧c.c=d.c∧r
def zC:Crs:=⟨fun _=>0,zG,0⟩
open Classical in
noncomputable def stC (n:Nat) (st:Nat→Int):Crs:=⟨fun _=>0,fun i=>if i<n then ⟨st i,st i⟩ else ⟨0,0⟩,0⟩
noncomputable def ncG (n:Nat) (st:Nat→Int):Prop:=funH Try.prog (ctrs [exC]) noX (ictrs [])
 (oneL 0 (natH (fun k=>k≤n) (fun k=>n - k) 2 (fun k=>mkF 20 [(2,.ptr 0 0 0),(3,.ptr 1 0 0),(6,iL n st),(7,i6 n),(8,i6 k)]) (fun k=>mkX [vr 17 zC.sv,vr 17 (stC k st).sv]) fun _=>none)) noL
 28 [iL n st] (stC n st).sv
noncomputable def ncC:Ctr:=⟨28,fun args k=>match args with
 | [.lst 1 n f]=>SV.lst 1 n f=iL n (iOf f)∧n≤6∧k (stC n (iOf f)).sv
 | _=>False⟩
def canP (c:Crs) (s:Sti) (t:Int):Prop:=t*s.takes≤(c.l s.inn.toNat).lo
open Classical in
noncomputable def nxC (c:Crs) (at':Int) (s:Sti) (t:Int):Crs:=⟨fun i=>if (i:Int)=at' then t else c.p i,adG (adG (adG zG c.l) (tkG s t)) (mdG s t s.on),c.c+t*s.pay⟩
open Classical in
noncomputable def wiX (c:Crs) (at':Int) (s:Sti) (t:Int):Crs:=if canP c s t then nxC c at' s t else zC
def psX (c:Crs) (a t:Int):Crs:=⟨fun i=>if 0+a.toNat*Nat.succ 0=i then t else c.p i,fun i=>⟨if 0+a.toNat*Nat.succ 0=4+2*i then t else (c.l i).lo,if 0+a.toNat*Nat.succ 0=5+2*i then t else (c.l i).hi⟩,if 0+a.toNat*Nat.succ 0=16 then t else c.c⟩
def bdC (b:Int) (c:Crs):Prop:=bdG b c.l∧(-b≤c.c∧c.c≤b)
noncomputable def wiG (c:Crs) (at':Int) (s:Sti) (t:Int):Prop:=funH Try.prog (ctrs [tbC,mbC,sgC]) noX (ictrs []) noL noL 46 [c.sv,i6 at',s.sv,i6 t] (.tup [(wiX c at' s t).sv,.dec (canP c s t) (Classical.propDecidable _)])
noncomputable def wiC:Ctr:=⟨46,fun args k=>match args with
 | [v,.int .i64 a,.agg [.int .i64 x,.int .i64 b,.lst 2 n h,.int .i64 y,.int .i64 z],.int .i64 t]=>crK v fun c=>SV.lst 2 n h=twL n (ftOf h)∧(0≤a∧a≤3)∧okSt ⟨x,b,n,ftOf h,y,z⟩∧okT t∧bdC 10000000000 c∧k (.tup [(wiX c a ⟨x,b,n,ftOf h,y,z⟩ t).sv,.dec (canP c ⟨x,b,n,ftOf h,y,z⟩ t) (Classical.propDecidable _)])
 | _=>False⟩
end Go.Proofs.Ytlhdlkplgafolaa

set_option maxRecDepth 100000
namespace Go.Proofs.Ytlhdlkplgafolaa
open Go Go.Lg
theorem exG_vc (n:Int):exG n=((0:Nat)<(1:Nat)∧n=n∧n=n∧True):=by kernel_rfl
theorem tiG_vc (a:Int) (b:Int) (n:Int):tiG a b n=((0:Nat)<(1:Nat)∧((-9223372036854775808:Int)≤n*a∧n*a≤(9223372036854775807:Int))∧(0:Nat)<(1:Nat)∧((-9223372036854775808:Int)≤n*b∧n*b≤(9223372036854775807:Int))∧(0:Nat)<(1:Nat)∧n*a=n*a∧n*b=n*b∧True):=by kernel_rfl
theorem gpG_vc (A:Nat→Tw) (B:Nat→Tw):gpG A B=((0:Nat)<(1:Nat)∧(∃ (z:Nat),z≤(6:Nat)∧rE (0:Nat)∧rE (0:Nat)∧rE (0:Nat)∧rE (0:Nat)∧rE (0:Nat)∧rE (0:Nat)∧rE ((B (0:Nat)).1)∧rE ((B (0:Nat)).2)∧rE ((B (1:Nat)).1)∧rE ((B (1:Nat)).2)∧rE ((B (2:Nat)).1)∧rE ((B (2:Nat)).2)∧rE ((B (3:Nat)).1)∧rE ((B (3:Nat)).2)∧rE ((B (4:Nat)).1)∧rE ((B (4:Nat)).2)∧rE ((B (5:Nat)).1)∧rE ((B (5:Nat)).2)∧(0:Int)=(↑z:Int)∧(A (0:Nat)).1=(upG A B z (0:Nat)).1∧(A (0:Nat)).2=(upG A B z (0:Nat)).2∧(A (1:Nat)).1=(upG A B z (1:Nat)).1∧(A (1:Nat)).2=(upG A B z (1:Nat)).2∧(A (2:Nat)).1=(upG A B z (2:Nat)).1∧(A (2:Nat)).2=(upG A B z (2:Nat)).2∧(A (3:Nat)).1=(upG A B z (3:Nat)).1∧(A (3:Nat)).2=(upG A B z (3:Nat)).2∧(A (4:Nat)).1=(upG A B z (4:Nat)).1∧(A
(4:Nat)).2=(upG A B z (4:Nat)).2∧(A (5:Nat)).1=(upG A B z (5:Nat)).1∧(A (5:Nat)).2=(upG A B z (5:Nat)).2∧rE ((B (0:Nat)).1)∧rE ((B (0:Nat)).2)∧rE ((B (1:Nat)).1)∧rE ((B (1:Nat)).2)∧rE ((B (2:Nat)).1)∧rE ((B (2:Nat)).2)∧rE ((B (3:Nat)).1)∧rE ((B (3:Nat)).2)∧rE ((B (4:Nat)).1)∧rE ((B (4:Nat)).2)∧rE ((B (5:Nat)).1)∧rE ((B (5:Nat)).2)∧rE (0:Int)∧rE (0:Int)∧rE (0:Int)∧rE (0:Int)∧rE (0:Int)∧rE (0:Int)∧rE (0:Int)∧rE (0:Int)∧rE (0:Int)∧rE (0:Int)∧rE (0:Int)∧rE (0:Int)∧True)∧∀ (z:Nat),z≤(6:Nat)→((↑z:Int)<(6:Int)→(0:Int)≤(↑z:Int)∧(↑z:Int)<(↑(6:Nat):Int)∧(↑z:Int).toNat*2+1<(12:Nat)∧(0:Int)≤(↑z:Int)∧(↑z:Int)<(↑(6:Nat):Int)∧(0:Nat)<(1:Nat)∧0+(↑z:Int).toNat*2+1 <
(12:Nat)∧(0:Nat)<(1:Nat)∧(rI (cellZ (gdV (upG A B z)).cells (0+(↑z:Int).toNat*Nat.succ (1:Nat))+cellZ (gdC B) ((↑z:Int).toNat*Nat.succ (1:Nat)))∧rI (cellZ (gdV (upG A B z)).cells (0+(↑z:Int).toNat*Nat.succ 1+1)+cellZ (gdC B) ((↑z:Int).toNat*Nat.succ 1+1)))∧(0:Int)≤(↑z:Int)∧(↑z:Int)<(↑(6:Nat):Int)∧0+(↑z:Int).toNat*2+1<(12:Nat)∧rI ((↑z:Int)+(1:Int))∧∃ (z_1:Nat),z_1≤(6:Nat)∧(6:Nat) - z_1<(6:Nat) - z∧rE (0:Nat)∧rE (0:Nat)∧rE (0:Nat)∧rE (0:Nat)∧rE (0:Nat)∧rE (0:Nat)∧rE ((B (0:Nat)).1)∧rE ((B (0:Nat)).2)∧rE ((B (1:Nat)).1)∧rE ((B (1:Nat)).2)∧rE ((B (2:Nat)).1)∧rE ((B (2:Nat)).2)∧rE ((B (3:Nat)).1)∧rE ((B (3:Nat)).2)∧rE ((B (4:Nat)).1)∧rE ((B (4:Nat)).2)∧rE ((B
(5:Nat)).1)∧rE ((B (5:Nat)).2)∧(↑z:Int)+(1:Int)=(↑z_1:Int)∧(if 0+(↑z:Int).toNat*2+1=0 then cellZ (gdV (upG A B z)).cells (0+(↑z:Int).toNat*2+1)+cellZ (gdC B) ((↑z:Int).toNat*2+1) else if 0+(↑z:Int).toNat*2=0 then cellZ (gdV (upG A B z)).cells (0+(↑z:Int).toNat*(2:Nat))+cellZ (gdC B) ((↑z:Int).toNat*(2:Nat)) else (upG A B z (0:Nat)).1)=(upG A B z_1 (0:Nat)).1∧(if 0+(↑z:Int).toNat*2+1=1 then cellZ (gdV (upG A B z)).cells (0+(↑z:Int).toNat*2+1)+cellZ (gdC B) ((↑z:Int).toNat*2+1) else if 0+(↑z:Int).toNat*2=1 then cellZ (gdV (upG A B z)).cells (0+(↑z:Int).toNat*(2:Nat)) +
cellZ (gdC B) ((↑z:Int).toNat*(2:Nat)) else (upG A B z (0:Nat)).2)=(upG A B z_1 (0:Nat)).2∧(if 0+(↑z:Int).toNat*2+1=2 then cellZ (gdV (upG A B z)).cells (0+(↑z:Int).toNat*2+1)+cellZ (gdC B) ((↑z:Int).toNat*2+1) else if 0+(↑z:Int).toNat*2=2 then cellZ (gdV (upG A B z)).cells (0+(↑z:Int).toNat*(2:Nat))+cellZ (gdC B) ((↑z:Int).toNat*(2:Nat)) else (upG A B z (1:Nat)).1)=(upG A B z_1 (1:Nat)).1∧(if 0+(↑z:Int).toNat*2+1=3 then cellZ (gdV (upG A B z)).cells (0+(↑z:Int).toNat*2+1)+cellZ (gdC B) ((↑z:Int).toNat*2+1) else if 0+(↑z:Int).toNat*2=3 then cellZ (gdV (upG A B z)).cells (0+(↑z :
Int).toNat*(2:Nat))+cellZ (gdC B) ((↑z:Int).toNat*(2:Nat)) else (upG A B z (1:Nat)).2)=(upG A B z_1 (1:Nat)).2∧(if 0+(↑z:Int).toNat*2+1=4 then cellZ (gdV (upG A B z)).cells (0+(↑z:Int).toNat*2+1)+cellZ (gdC B) ((↑z:Int).toNat*2+1) else if 0+(↑z:Int).toNat*2=4 then cellZ (gdV (upG A B z)).cells (0+(↑z:Int).toNat*(2:Nat))+cellZ (gdC B) ((↑z:Int).toNat*(2:Nat)) else (upG A B z (2:Nat)).1)=(upG A B z_1 (2:Nat)).1∧(if 0+(↑z:Int).toNat*2+1=5 then cellZ (gdV (upG A B z)).cells (0+(↑z:Int).toNat*2+1)+cellZ (gdC B) ((↑z:Int).toNat*2+1) else if 0+(↑z:Int).toNat*2=5 then cellZ (gdV (upG A B z)).cells
(0+(↑z:Int).toNat*(2:Nat))+cellZ (gdC B) ((↑z:Int).toNat*(2:Nat)) else (upG A B z (2:Nat)).2)=(upG A B z_1 (2:Nat)).2∧(if 0+(↑z:Int).toNat*2+1=6 then cellZ (gdV (upG A B z)).cells (0+(↑z:Int).toNat*2+1)+cellZ (gdC B) ((↑z:Int).toNat*2+1) else if 0+(↑z:Int).toNat*2=6 then cellZ (gdV (upG A B z)).cells (0+(↑z:Int).toNat*(2:Nat))+cellZ (gdC B) ((↑z:Int).toNat*(2:Nat)) else (upG A B z (3:Nat)).1)=(upG A B z_1 (3:Nat)).1∧(if 0+(↑z:Int).toNat*2+1=7 then cellZ (gdV (upG A B z)).cells (0+(↑z:Int).toNat*2+1)+cellZ (gdC B) ((↑z:Int).toNat*2+1) else if 0+(↑z:Int).toNat*2=7 then cellZ
(gdV (upG A B z)).cells (0+(↑z:Int).toNat*(2:Nat))+cellZ (gdC B) ((↑z:Int).toNat*(2:Nat)) else (upG A B z (3:Nat)).2)=(upG A B z_1 (3:Nat)).2∧(if 0+(↑z:Int).toNat*2+1=8 then cellZ (gdV (upG A B z)).cells (0+(↑z:Int).toNat*2+1)+cellZ (gdC B) ((↑z:Int).toNat*2+1) else if 0+(↑z:Int).toNat*2=8 then cellZ (gdV (upG A B z)).cells (0+(↑z:Int).toNat*(2:Nat))+cellZ (gdC B) ((↑z:Int).toNat*(2:Nat)) else (upG A B z (4:Nat)).1)=(upG A B z_1 (4:Nat)).1∧(if 0+(↑z:Int).toNat*2+1=9 then cellZ (gdV (upG A B z)).cells (0+(↑z:Int).toNat*2+1)+cellZ (gdC B) ((↑z:Int).toNat*2+1) else if 0+(↑z:Int).toNat*2=9 then cellZ (gdV (upG A B z)).cells (0+(↑z:Int).toNat*(2:Nat))+cellZ (gdC B) ((↑z:Int).toNat*(2:Nat)) else (upG A B z (4:Nat)).2)=(upG A B z_1 (4:Nat)).2∧(if 0+(↑z:Int).toNat*2+1=10 then cellZ (gdV (upG A B z)).cells (0+(↑z:Int).toNat*2+1)+cellZ (gdC B) ((↑z:Int).toNat*2+1) else if 0+(↑z:Int).toNat*2=10 then cellZ (gdV (upG A B z)).cells (0+(↑z:Int).toNat*(2:Nat))+cellZ (gdC B) ((↑z:Int).toNat*(2:Nat)) else (upG A B z (5:Nat)).1)=(upG A B z_1 (5:Nat)).1∧(if 0+(↑z:Int).toNat*2+1=11 then cellZ (gdV (upG A B z)).cells (0+(↑z:Int).toNat*2+1)+cellZ (gdC B) ((↑z:Int).toNat*2+1) else if 0 +
(↑z:Int).toNat*2=11 then cellZ (gdV (upG A B z)).cells (0+(↑z:Int).toNat*(2:Nat))+cellZ (gdC B) ((↑z:Int).toNat*(2:Nat)) else (upG A B z (5:Nat)).2)=(upG A B z_1 (5:Nat)).2∧rE ((B (0:Nat)).1)∧rE ((B (0:Nat)).2)∧rE ((B (1:Nat)).1)∧rE ((B (1:Nat)).2)∧rE ((B (2:Nat)).1)∧rE ((B (2:Nat)).2)∧rE ((B (3:Nat)).1)∧rE ((B (3:Nat)).2)∧rE ((B (4:Nat)).1)∧rE ((B (4:Nat)).2)∧rE ((B (5:Nat)).1)∧rE ((B (5:Nat)).2)∧rE (0:Int)∧rE (0:Int)∧rE (0:Int)∧rE (0:Int)∧rE (0:Int)∧rE (0:Int)∧rE (0:Int)∧rE (0:Int)∧rE (0:Int)∧rE (0:Int)∧rE (0:Int)∧rE (0:Int)∧True)∧(¬(↑z:Int)<(6:Int)→(0:Nat)<(1:Nat)∧(0:Nat)<(1:Nat)∧(upG A B z (0:Nat)).1=(A (0:Nat)).1+(B (0:Nat)).1∧(upG A B z (0:Nat)).2=(A (0:Nat)).2+(B (0:Nat)).2∧(upG A B z
(1:Nat)).1=(A (1:Nat)).1+(B (1:Nat)).1∧(upG A B z (1:Nat)).2=(A (1:Nat)).2+(B (1:Nat)).2∧(upG A B z (2:Nat)).1=(A (2:Nat)).1+(B (2:Nat)).1∧(upG A B z (2:Nat)).2=(A (2:Nat)).2+(B (2:Nat)).2∧(upG A B z (3:Nat)).1=(A (3:Nat)).1+(B (3:Nat)).1∧(upG A B z (3:Nat)).2=(A (3:Nat)).2+(B (3:Nat)).2∧(upG A B z (4:Nat)).1=(A (4:Nat)).1+(B (4:Nat)).1∧(upG A B z (4:Nat)).2=(A (4:Nat)).2+(B (4:Nat)).2∧(upG A B z (5:Nat)).1=(A (5:Nat)).1+(B (5:Nat)).1∧(upG A B z (5:Nat)).2=(A (5:Nat)).2+(B (5:Nat)).2∧True)):=by kernel_rfl
theorem sgG_vc (A:Nat→Tw) (B:Nat→Tw) (C:Nat→Tw):sgG A B C=((0:Int)≤Int.ofNat (0:Nat)∧Int.ofNat (0:Nat)<(↑(3:Nat):Int)∧(0:Nat)<(1:Nat)∧(0:Nat)<(1:Nat)∧(bdG (1000000000000:Int) (c6 zG)∧bdG (1000000000000:Int) (c6 A))∧rI ((0:Int)+(1:Int))∧(0:Int)≤Int.ofNat (Nat.succ (0:Nat))∧Int.ofNat (Nat.succ (0:Nat))<(↑(3:Nat):Int)∧(0:Nat)<(1:Nat)∧(0:Nat)<(1:Nat)∧(bdG (1000000000000:Int) (c6 (adG (c6 zG) (c6 A)))∧bdG (1000000000000:Int) (c6 B))∧rI ((0:Int)+(1:Int)+(1:Int))∧(0:Int)≤Int.ofNat (Nat.succ (1:Nat))∧Int.ofNat (Nat.succ (1:Nat))<(↑(3:Nat):Int)∧(0:Nat)<(1:Nat)∧(0:Nat)<(1:Nat)∧(bdG (1000000000000:Int) (c6 (adG (c6 (adG (c6 zG) (c6 A))) (c6 B)))∧bdG (1000000000000:Int) (c6 C))∧rI ((0:Int)+(1:Int)+(1:Int)+(1:Int))∧(0:Nat) <
(1:Nat)∧(0:Nat)<(1:Nat)∧rE ((0:Int)+(A (0:Nat)).1+(B (0:Nat)).1+(C (0:Nat)).1)∧rE ((0:Int)+(A (0:Nat)).2+(B (0:Nat)).2+(C (0:Nat)).2)∧rE ((0:Int)+(A (1:Nat)).1+(B (1:Nat)).1+(C (1:Nat)).1)∧rE ((0:Int)+(A (1:Nat)).2+(B (1:Nat)).2+(C (1:Nat)).2)∧rE ((0:Int)+(A (2:Nat)).1+(B (2:Nat)).1+(C (2:Nat)).1)∧rE ((0:Int)+(A (2:Nat)).2+(B (2:Nat)).2+(C (2:Nat)).2)∧rE ((0:Int)+(A (3:Nat)).1+(B (3:Nat)).1+(C (3:Nat)).1)∧rE ((0:Int)+(A (3:Nat)).2+(B (3:Nat)).2+(C (3:Nat)).2)∧rE ((0:Int)+(A (4:Nat)).1+(B (4:Nat)).1+(C (4:Nat)).1)∧rE ((0:Int)+(A (4:Nat)).2+(B (4:Nat)).2+(C (4:Nat)).2)∧rE ((0:Int)+(A (5:Nat)).1+(B (5:Nat)).1+(C (5:Nat)).1)∧rE ((0:Int)+(A (5:Nat)).2+(B (5:Nat)).2+(C (5:Nat)).2)∧True):=by kernel_rfl
theorem tbG_vc (s:Sti) (t:Int):tbG s t=((0:Nat)<(1:Nat)∧rI ((0:Int) - t)∧(0:Nat)<(1:Nat)∧rI (((0:Int) - t)*s.2)∧(0:Int)≤s.1∧s.1<(↑(6:Nat):Int)∧0+s.1.toNat*2+1<(12:Nat)∧(0:Nat)<(1:Nat)∧(0:Nat)<(1:Nat)∧(if 0+s.1.toNat*2+1=0 then ((0:Int) - t)*s.2 else if 0+s.1.toNat*2=0 then ((0:Int) - t)*s.2 else (0:Int))=(tkG s t (0:Nat)).1∧(if 0+s.1.toNat*2+1=1 then ((0:Int) - t)*s.2 else if 0+s.1.toNat*2=1 then ((0:Int) - t)*s.2 else (0:Int))=(tkG s t (0:Nat)).2∧(if 0+s.1.toNat*2+1=2 then ((0:Int) - t)*s.2 else if 0+s.1.toNat*2=2 then ((0:Int) - t)*s.2 else (0
: Int))=(tkG s t (1:Nat)).1∧(if 0+s.1.toNat*2+1=3 then ((0:Int) - t)*s.2 else if 0+s.1.toNat*2=3 then ((0:Int) - t)*s.2 else (0:Int))=(tkG s t (1:Nat)).2∧(if 0+s.1.toNat*2+1=4 then ((0:Int) - t)*s.2 else if 0+s.1.toNat*2=4 then ((0:Int) - t)*s.2 else (0:Int))=(tkG s t (2:Nat)).1∧(if 0+s.1.toNat*2+1=5 then ((0:Int) - t)*s.2 else if 0+s.1.toNat*2=5 then ((0:Int) - t)*s.2 else (0:Int))=(tkG s t (2:Nat)).2∧(if 0+s.1.toNat*2+1=6 then ((0:Int) - t)*s.2 else if 0+s.1.toNat*2=6 then ((0:Int) - t)*s.2 else (0:Int))=(tkG s t (3:Nat)).1∧(if 0+s.1.toNat*2+1=7 then ((0:Int) - t)*s.2 else if 0+s.1.toNat*2=7 then ((0:Int) - t)*s.2 else (0:Int))=(tkG s t (3:Nat)).2∧(if 0+s.1.toNat*2+1=8 then ((0:Int) - t)*s.2 else if 0+s.1.toNat*2=8 then ((0:Int) - t)*s.2 else (0:Int))=(tkG s t (4:Nat)).1∧(if 0+s.1.toNat*2+1=9 then ((0:Int) - t)*s.2 else if 0+s.1.toNat*2=9 then ((0:Int) - t)*s.2 else (0:Int))=(tkG s t (4:Nat)).2∧(if 0+s.1.toNat*2+1=10 then ((0:Int) - t)*s.2 else if 0+s.1.toNat*2=10 then ((0:Int) - t)*s.2 else (0:Int))=(tkG s t (5:Nat)).1∧(if 0+s.1.toNat*2+1=11 then ((0:Int)
- t)*s.2 else if 0+s.1.toNat*2=11 then ((0:Int) - t)*s.2 else (0:Int))=(tkG s t (5:Nat)).2∧True):=by kernel_rfl
theorem mbG_vc (s:Sti) (t:Int):mbG s t=((0:Nat)<(1:Nat)∧(∃ (z:Nat),z≤s.3∧t=t∧rE (0:Nat)∧rE (0:Nat)∧rE (0:Nat)∧rE (0:Nat)∧rE (0:Nat)∧rE (0:Nat)∧s.3=s.3∧(∀ (i:Nat),i<s.3→rE ((s.out i).sv.den)∧True∧True∧True)∧rE (↑s.3:Int)∧(0:Int)=(↑z:Int)∧s.1=s.1∧s.2=s.2∧s.3=s.3∧(∀ (i:Nat),i<s.3→rE ((s.out i).sv.den)∧True∧True∧True)∧s.5=s.5∧s.6=s.6∧rE (0:Int)∧rE (0:Int)∧rE (0:Int)∧rE (0:Int)∧rE (0:Int)∧rE (0:Int)∧rE (0:Int)∧rE (0:Int)∧rE (0:Int)∧rE (0:Int)∧rE (0:Int)∧rE (0:Int)∧(0:Int)=(mdG s t z (0:Nat)).1∧(0:Int)=(mdG s t z (0:Nat)).2∧(0:Int)=(mdG s t z (1:Nat)).1∧(0:Int)=(mdG s t z (1:Nat)).2∧(0:Int)=(mdG s t z (2:Nat)).1∧(0:Int)=(mdG s t z (2:Nat)).2∧(0:Int)=(mdG s t z (3:Nat)).1∧(0:Int)
= (mdG s t z (3:Nat)).2∧(0:Int)=(mdG s t z (4:Nat)).1∧(0:Int)=(mdG s t z (4:Nat)).2∧(0:Int)=(mdG s t z (5:Nat)).1∧(0:Int)=(mdG s t z (5:Nat)).2∧True)∧∀ (z:Nat),z≤s.3→((↑z:Int)<(↑s.3:Int)→(0:Int)≤(↑z:Int)∧(↑z:Int)<(↑s.3:Int)∧(0:Nat)<(1:Nat)∧(rI (t*(s.out (↑z:Int).toNat).lo)∧rI (t*(s.out (↑z:Int).toNat).hi))∧(0:Int)≤(↑z:Int)∧(↑z:Int)<(↑(6:Nat):Int)∧0+(↑z:Int).toNat*2+1<(12:Nat)∧rI ((↑z:Int)+(1:Int))∧∃ (z_1:Nat),z_1≤s.3∧s.3 - z_1<s.3 - z∧t=t∧rE (0:Nat)∧rE (0:Nat)∧rE (0:Nat)∧rE (0:Nat)∧rE (0:Nat)∧rE (0:Nat)∧s.3=s.3∧(∀ (i:Nat),i<s.3→rE ((s.out i).sv.den)∧True∧True∧True)∧rE (↑s.3:Int)∧(↑z:Int)+(1:Int)=(↑z_1:Int)∧s.1=s.1∧s.2=s.2∧s.3=s.3∧(∀ (i:Nat),i<s.3 →
rE ((s.out i).sv.den)∧True∧True∧True)∧s.5=s.5∧s.6=s.6∧rE (0:Int)∧rE (0:Int)∧rE (0:Int)∧rE (0:Int)∧rE (0:Int)∧rE (0:Int)∧rE (0:Int)∧rE (0:Int)∧rE (0:Int)∧rE (0:Int)∧rE (0:Int)∧rE (0:Int)∧(if 0+(↑z:Int).toNat*2+1=0 then t*(s.out (↑z:Int).toNat).2 else if 0+(↑z:Int).toNat*2=0 then t*(s.out (↑z:Int).toNat).1 else (mdG s t z (0:Nat)).1)=(mdG s t z_1 (0:Nat)).1∧(if 0+(↑z:Int).toNat*2+1=1 then t*(s.out (↑z:Int).toNat).2 else if 0+(↑z:Int).toNat*2=1 then t*(s.out (↑z:Int).toNat).1 else (mdG s t z (0:Nat)).2)=(mdG s t z_1 (0:Nat)).2∧(if 0+(↑z:Int).toNat*2+1=2 then t*(s.out (↑z:Int).toNat).2 else if 0+(↑z
: Int).toNat*2=2 then t*(s.out (↑z:Int).toNat).1 else (mdG s t z (1:Nat)).1)=(mdG s t z_1 (1:Nat)).1∧(if 0+(↑z:Int).toNat*2+1=3 then t*(s.out (↑z:Int).toNat).2 else if 0+(↑z:Int).toNat*2=3 then t*(s.out (↑z:Int).toNat).1 else (mdG s t z (1:Nat)).2)=(mdG s t z_1 (1:Nat)).2∧(if 0+(↑z:Int).toNat*2+1=4 then t*(s.out (↑z:Int).toNat).2 else if 0+(↑z:Int).toNat*2=4 then t*(s.out (↑z:Int).toNat).1 else (mdG s t z (2:Nat)).1)=(mdG s t z_1 (2:Nat)).1∧(if 0+(↑z:Int).toNat*2+1=5 then t*(s.out (↑z:Int).toNat).2 else if 0+(↑z:Int).toNat*2=5 then t*(s.out (↑z:Int).toNat).1 else (mdG s t z (2:Nat)).2)=(mdG s t z_1
(2:Nat)).2∧(if 0+(↑z:Int).toNat*2+1=6 then t*(s.out (↑z:Int).toNat).2 else if 0+(↑z:Int).toNat*2=6 then t*(s.out (↑z:Int).toNat).1 else (mdG s t z (3:Nat)).1)=(mdG s t z_1 (3:Nat)).1∧(if 0+(↑z:Int).toNat*2+1=7 then t*(s.out (↑z:Int).toNat).2 else if 0+(↑z:Int).toNat*2=7 then t*(s.out (↑z:Int).toNat).1 else (mdG s t z (3:Nat)).2)=(mdG s t z_1 (3:Nat)).2∧(if 0+(↑z:Int).toNat*2+1=8 then t*(s.out (↑z:Int).toNat).2 else if 0+(↑z:Int).toNat*2=8 then t*(s.out (↑z:Int).toNat).1 else (mdG s t z (4:Nat)).1)=(mdG s t z_1 (4:Nat)).1∧(if 0+(↑z:Int).toNat*2+1=9 then t*(s.out (↑z:Int).toNat).2
else if 0+(↑z:Int).toNat*2=9 then t*(s.out (↑z:Int).toNat).1 else (mdG s t z (4:Nat)).2)=(mdG s t z_1 (4:Nat)).2∧(if 0+(↑z:Int).toNat*2+1=10 then t*(s.out (↑z:Int).toNat).2 else if 0+(↑z:Int).toNat*2=10 then t*(s.out (↑z:Int).toNat).1 else (mdG s t z (5:Nat)).1)=(mdG s t z_1 (5:Nat)).1∧(if 0+(↑z:Int).toNat*2+1=11 then t*(s.out (↑z:Int).toNat).2 else if 0+(↑z:Int).toNat*2=11 then t*(s.out (↑z:Int).toNat).1 else (mdG s t z (5:Nat)).2)=(mdG s t z_1 (5:Nat)).2∧True)∧(¬(↑z:Int)<(↑s.3:Int)→(0:Nat)<(1:Nat)∧(0:Nat)<(1:Nat)∧(mdG s t z (0:Nat)).1=(mdG s t s.on (0:Nat)).1∧(mdG s t z (0:Nat)).2=(mdG s t s.on (0:Nat)).2∧(mdG s t z (1:Nat)).1
= (mdG s t s.on (1:Nat)).1∧(mdG s t z (1:Nat)).2=(mdG s t s.on (1:Nat)).2∧(mdG s t z (2:Nat)).1=(mdG s t s.on (2:Nat)).1∧(mdG s t z (2:Nat)).2=(mdG s t s.on (2:Nat)).2∧(mdG s t z (3:Nat)).1=(mdG s t s.on (3:Nat)).1∧(mdG s t z (3:Nat)).2=(mdG s t s.on (3:Nat)).2∧(mdG s t z (4:Nat)).1=(mdG s t s.on (4:Nat)).1∧(mdG s t z (4:Nat)).2=(mdG s t s.on (4:Nat)).2∧(mdG s t z (5:Nat)).1=(mdG s t s.on (5:Nat)).1∧(mdG s t z (5:Nat)).2=(mdG s t s.on (5:Nat)).2∧True)):=by kernel_rfl
theorem ncG_vc (n:Nat) (st:Nat→Int):ncG n st=((∃ (z:Nat),z≤n∧rE (0:Nat)∧rE (0:Nat)∧rE (0:Nat)∧rE (0:Nat)∧n=n∧(∀ (i:Nat),i<n→rE ((i6 (st i)).den)∧True)∧rE (↑n:Int)∧(0:Int)=(↑z:Int)∧rE (0:Int)∧rE (0:Int)∧rE (0:Int)∧rE (0:Int)∧rE (0:Int)∧rE (0:Int)∧rE (0:Int)∧rE (0:Int)∧rE (0:Int)∧rE (0:Int)∧rE (0:Int)∧rE (0:Int)∧rE (0:Int)∧rE (0:Int)∧rE (0:Int)∧rE (0:Int)∧rE (0:Int)∧rE (0:Int)∧rE (0:Int)∧rE (0:Int)∧rE (0:Int)∧(0:Int)=((stC z st).l 0).1∧(0:Int)=((stC z st).l 0).2∧(0:Int)=((stC z st).l 1).1∧(0:Int)=((stC z st).l 1).2∧(0:Int)=((stC z st).l 2).1∧(0:Int)=((stC z st).l 2).2∧(0:Int)=((stC z st).l 3).1∧(0:Int)=((stC z st).l 3).2∧(0:Int)=((stC
z st).l 4).1∧(0:Int)=((stC z st).l 4).2∧(0:Int)=((stC z st).l 5).1∧(0:Int)=((stC z st).l 5).2∧rE (0:Int)∧True)∧∀ (z:Nat),z≤n→((↑z:Int)<(↑n:Int)→(0:Int)≤(↑z:Int)∧(↑z:Int)<(↑n:Int)∧(0:Int)≤(↑z:Int)∧(↑z:Int)<(↑(6:Nat):Int)∧4+(↑z:Int).toNat*2+1<(17:Nat)∧rI ((↑z:Int)+(1:Int))∧∃ (z_1:Nat),z_1≤n∧n - z_1<n - z∧rE (0:Nat)∧rE (0:Nat)∧rE (0:Nat)∧rE (0:Nat)∧n=n∧(∀ (i:Nat),i<n→rE ((i6 (st i)).den)∧True)∧rE (↑n:Int)∧(↑z:Int)+(1:Int)=(↑z_1:Int)∧rE (0:Int)∧rE (0:Int)∧rE (0:Int)∧rE (0:Int)∧rE (0:Int)∧rE (0:Int)∧rE (0:Int)∧rE (0:Int)∧rE (0:Int)∧rE (0:Int)∧rE (0:Int)∧rE (0:Int)∧rE (0:Int)∧rE (0:Int)∧rE (0:Int)∧rE (0:Int)∧rE (0:Int)∧(if
4+(↑z:Int).toNat*2+1=0 then st (↑z:Int).toNat else if 4+(↑z:Int).toNat*2=0 then st (↑z:Int).toNat else (0:Int))=(0:Int)∧(if 4+(↑z:Int).toNat*2+1=1 then st (↑z:Int).toNat else if 4+(↑z:Int).toNat*2=1 then st (↑z:Int).toNat else (0:Int))=(0:Int)∧(if 4+(↑z:Int).toNat*2+1=2 then st (↑z:Int).toNat else if 4+(↑z:Int).toNat*2=2 then st (↑z:Int).toNat else (0:Int))=(0:Int)∧(if 4+(↑z:Int).toNat*2+1=3 then st (↑z:Int).toNat else if 4+(↑z:Int).toNat*2=3 then st (↑z:Int).toNat else (0:Int))=(0:Int)∧(if 4+(↑z:Int).toNat*2+1=4
then st (↑z:Int).toNat else if 4+(↑z:Int).toNat*2=4 then st (↑z:Int).toNat else ((stC z st).l 0).1)=((stC z_1 st).l 0).1∧(if 4+(↑z:Int).toNat*2+1=5 then st (↑z:Int).toNat else if 4+(↑z:Int).toNat*2=5 then st (↑z:Int).toNat else ((stC z st).l 0).2)=((stC z_1 st).l 0).2∧(if 4+(↑z:Int).toNat*2+1=6 then st (↑z:Int).toNat else if 4+(↑z:Int).toNat*2=6 then st (↑z:Int).toNat else ((stC z st).l 1).1)=((stC z_1 st).l 1).1∧(if 4+(↑z:Int).toNat*2+1=7 then st (↑z:Int).toNat else if 4+(↑z:Int).toNat*2=7 then st (↑z:Int).toNat else ((stC z st).l 1).2)=((stC z_1 st).l 1).2∧(if 4+(↑z:Int).toNat*2+1=8 then st (↑z:Int).toNat else if 4+(↑z:Int).toNat*2=8 then st (↑z:Int).toNat else ((stC z st).l 2).1)=((stC z_1 st).l 2).1∧(if 4+(↑z:Int).toNat*2+1=9 then st (↑z:Int).toNat else if 4+(↑z:Int).toNat*2=9 then st (↑z:Int).toNat else ((stC z st).l 2).2)=((stC z_1 st).l 2).2∧(if 4+(↑z:Int).toNat*2+1=10 then st (↑z:Int).toNat else if 4+(↑z:Int).toNat*2=10 then st (↑z:Int).toNat else ((stC z st).l 3).1)=((stC z_1 st).l 3).1∧(if 4+(↑z:Int).toNat*2+1=11 then st (↑z:Int).toNat else if 4+(↑z:Int).toNat*2=11 then st (↑z:Int).toNat else ((stC z st).l 3).2)=((stC z_1 st).l 3).2∧(if 4+(↑z:Int).toNat*2+1=12 then st (↑z:Int).toNat else if 4+(↑z:Int).toNat*2=12 then st (↑z:Int).toNat else ((stC z st).l 4).1)=((stC z_1 st).l 4).1∧(if 4+(↑z:Int).toNat*2+1=13 then st (↑z:Int).toNat else if 4+(↑z:Int).toNat*2=13 then st (↑z:Int).toNat else ((stC z st).l 4).2)=((stC z_1 st).l 4).2∧(if 4+(↑z:Int).toNat*2+1=14 then st (↑z:Int).toNat else if 4+(↑z:Int).toNat*2=14 then st (↑z:Int).toNat else ((stC z st).l 5).1)=((stC z_1 st).l 5).1∧(if 4+(↑z:Int).toNat*2+1=15 then st (↑z:Int).toNat else if 4+(↑z:Int).toNat*2=15 then st (↑z:Int).toNat else ((stC z st).l 5).2)=((stC z_1 st).l 5).2∧(if 4+(↑z:Int).toNat*2+1=16 then st (↑z:Int).toNat else if 4+(↑z:Int).toNat*2=16 then st (↑z:Int).toNat else (0:Int))=(0:Int)∧True)∧(¬(↑z:Int)<(↑n:Int)→(0:Nat)<(1:Nat)∧(0:Nat)<(1:Nat)∧rE (0:Int)∧rE (0:Int)∧rE (0:Int)∧rE (0:Int)∧((stC z st).l 0).1=((stC n st).l 0).1∧((stC z st).l 0).2=((stC n st).l 0).2∧((stC z st).l 1).1=((stC n st).l 1).1∧((stC z st).l 1).2=((stC n st).l 1).2∧((stC z st).l 2).1=((stC n st).l 2).1∧((stC z st).l 2).2=((stC n st).l 2).2∧((stC z
st).l 3).1=((stC n st).l 3).1∧((stC z st).l 3).2=((stC n st).l 3).2∧((stC z st).l 4).1=((stC n st).l 4).1∧((stC z st).l 4).2=((stC n st).l 4).2∧((stC z st).l 5).1=((stC n st).l 5).1∧((stC z st).l 5).2=((stC n st).l 5).2∧rE (0:Int)∧True)):=by kernel_rfl
theorem wiG_vc (c:Crs) (at':Int) (s:Sti) (t:Int):wiG c at' s t=((0:Nat)<(1:Nat)∧(0:Int)≤s.1∧s.1<(↑(6:Nat):Int)∧(0:Nat)<(1:Nat)∧4+s.1.toNat*2+0<(17:Nat)∧(0:Nat)<(1:Nat)∧rI (t*s.2)∧(cellZ c.cells (4+s.1.toNat*2+0)<t*s.2→(0:Nat)<(1:Nat)∧(0:Int)=(wiX c at' s t).1 (0:Nat)∧(0:Int)=(wiX c at' s t).1 (1:Nat)∧(0:Int)=(wiX c at' s t).1 (2:Nat)∧(0:Int)=(wiX c at' s t).1 (3:Nat)∧(0:Int)=((wiX c at' s t).l 0).1∧(0:Int)=((wiX c at' s t).l 0).2∧(0:Int)=((wiX c at' s t).l 1).1∧(0:Int)=((wiX c at' s t).l 1).2∧(0:Int)=((wiX c at' s t).l 2).1∧(0:Int)=((wiX c at' s t).l 2).2∧(0:Int)=((wiX c at' s t).l 3).1∧(0:Int)=((wiX c at' s t).l 3).2
∧ (0:Int)=((wiX c at' s t).l 4).1∧(0:Int)=((wiX c at' s t).l 4).2∧(0:Int)=((wiX c at' s t).l 5).1∧(0:Int)=((wiX c at' s t).l 5).2∧(0:Int)=(wiX c at' s t).3∧(false=true↔canP c s t)∧True)∧(¬cellZ c.cells (4+s.1.toNat*2+0)<t*s.2→(0:Int)≤at'∧at'<(↑(4:Nat):Int)∧0+at'.toNat*(1:Nat)<(17:Nat)∧(0:Nat)<(1:Nat)∧(0:Nat)<(1:Nat)∧(∀ (i:Nat),i<s.3→True∧True∧True)∧(SV.lst (2:Nat) s.on fun i=>(s.out i).sv)=twL s.on (ftOf fun i=>(s.out i).sv)∧okSt s∧okT t∧(0:Nat)<(1:Nat)∧(∀ (i:Nat),i<s.3→True∧True∧True)∧(SV.lst (2:Nat) s.on fun i=>(s.out i).sv)=twL s.on (ftOf fun i=>(s.out i).sv)∧okSt s∧okT t∧((∀ (i:Nat),rE true)∧(∀ (i:Nat),rE true)∧True)∧(∀ (i:Nat),i<(3:Nat)→True∧True
∧ True∧True∧True∧True∧True∧True∧True∧True∧True∧True∧True)∧rE (3:Nat)∧(bdG (100000000000:Int) (c6 ((psX c at' t).l))∧bdG (100000000000:Int) (c6 (tkG s t))∧bdG (100000000000:Int) (c6 (mdG s t s.on)))∧(0:Nat)<(1:Nat)∧(0:Nat)<(1:Nat)∧rI (t*s.5)∧rI ((if 0+at'.toNat*1=16 then t else c.3)+t*s.5)∧(0:Nat)<(1:Nat)∧(0:Nat)<(1:Nat)∧(if 0+at'.toNat*1=0 then t else c.1 (0:Nat))=(wiX c at' s t).1 (0:Nat)∧(if 0+at'.toNat*1=1 then t else c.1 (1:Nat))=(wiX c at' s t).1 (1:Nat)∧(if 0+at'.toNat*1=2 then t else c.1 (2:Nat))=(wiX c at' s t).1 (2:Nat)∧(if 0+at'.toNat*1=3 then t else c.1 (3:Nat))=(wiX c at' s t).1 (3:Nat)∧((((0:Int)+if (0:Nat)=(0
: Nat) then ((psX c at' t).l 0).lo else (tkG s t (0:Nat)).1)+if (1:Nat)=(0:Nat) then ((psX c at' t).l 0).lo else (tkG s t (0:Nat)).1)+if (2:Nat)=(0:Nat) then ((psX c at' t).l 0).lo else (mdG s t s.on (0:Nat)).1)=((wiX c at' s t).l 0).1∧((((0:Int)+if (0:Nat)=(0:Nat) then ((psX c at' t).l 0).hi else (tkG s t (0:Nat)).2)+if (1:Nat)=(0:Nat) then ((psX c at' t).l 0).hi else (tkG s t (0:Nat)).2)+if (2:Nat)=(0:Nat) then ((psX c at' t).l 0).hi else (mdG s t s.on (0:Nat)).2)=((wiX c at' s t).l 0).2∧((((0:Int)+if (0:Nat)=(0:Nat) then ((psX c at' t).l 1).lo else (tkG s t (1:Nat)).1)+if (1:Nat)=(0:Nat) then ((psX c at' t).l 1).lo else (tkG s t (1:Nat)).1)+if (2:Nat)=(0:Nat) then ((psX c at' t).l 1).lo else (mdG s t s.on (1
: Nat)).1)=((wiX c at' s t).l 1).1∧((((0:Int)+if (0:Nat)=(0:Nat) then ((psX c at' t).l 1).hi else (tkG s t (1:Nat)).2)+if (1:Nat)=(0:Nat) then ((psX c at' t).l 1).hi else (tkG s t (1:Nat)).2)+if (2:Nat)=(0:Nat) then ((psX c at' t).l 1).hi else (mdG s t s.on (1:Nat)).2)=((wiX c at' s t).l 1).2∧((((0:Int)+if (0:Nat)=(0:Nat) then ((psX c at' t).l 2).lo else (tkG s t (2:Nat)).1)+if (1:Nat)=(0:Nat) then ((psX c at' t).l 2).lo else (tkG s t (2:Nat)).1)+if (2:Nat)=(0:Nat) then ((psX c at' t).l 2).lo else (mdG s t s.on (2:Nat)).1)=((wiX c at' s t).l 2).1∧((((0:Int)+if (0:Nat)=(0:Nat) then ((psX c at' t).l 2).hi else (tkG s t (2:Nat)).2)+if (1:Nat)=(0:Nat) then ((psX c at' t).l 2).hi else (tkG s t (2:Nat)).2)+if
(2:Nat)=(0:Nat) then ((psX c at' t).l 2).hi else (mdG s t s.on (2:Nat)).2)=((wiX c at' s t).l 2).2∧((((0:Int)+if (0:Nat)=(0:Nat) then ((psX c at' t).l 3).lo else (tkG s t (3:Nat)).1)+if (1:Nat)=(0:Nat) then ((psX c at' t).l 3).lo else (tkG s t (3:Nat)).1)+if (2:Nat)=(0:Nat) then ((psX c at' t).l 3).lo else (mdG s t s.on (3:Nat)).1)=((wiX c at' s t).l 3).1∧((((0:Int)+if (0:Nat)=(0:Nat) then ((psX c at' t).l 3).hi else (tkG s t (3:Nat)).2)+if (1:Nat)=(0:Nat) then ((psX c at' t).l 3).hi else (tkG s t (3:Nat)).2)+if (2:Nat)=(0:Nat) then ((psX c at' t).l 3).hi else (mdG s t s.on (3:Nat)).2)=((wiX c at' s t).l 3).2∧((((0:Int)+if (0:Nat)=(0:Nat) then ((psX c at' t).l 4).lo else (tkG s t (4:Nat)).1)+if (1:Nat) =
(0:Nat) then ((psX c at' t).l 4).lo else (tkG s t (4:Nat)).1)+if (2:Nat)=(0:Nat) then ((psX c at' t).l 4).lo else (mdG s t s.on (4:Nat)).1)=((wiX c at' s t).l 4).1∧((((0:Int)+if (0:Nat)=(0:Nat) then ((psX c at' t).l 4).hi else (tkG s t (4:Nat)).2)+if (1:Nat)=(0:Nat) then ((psX c at' t).l 4).hi else (tkG s t (4:Nat)).2)+if (2:Nat)=(0:Nat) then ((psX c at' t).l 4).hi else (mdG s t s.on (4:Nat)).2)=((wiX c at' s t).l 4).2∧((((0:Int)+if (0:Nat)=(0:Nat) then ((psX c at' t).l 5).lo else (tkG s t (5:Nat)).1)+if (1:Nat)=(0:Nat) then ((psX c at' t).l 5).lo else (tkG s t (5:Nat)).1)+if (2:Nat)=(0:Nat) then ((psX c at' t).l 5).lo else (mdG s t s.on (5:Nat)).1)=((wiX c at' s t).l 5).1∧((((0:Int)+if (0:Nat)=(0:Nat) then
((psX c at' t).l 5).hi else (tkG s t (5:Nat)).2)+if (1:Nat)=(0:Nat) then ((psX c at' t).l 5).hi else (tkG s t (5:Nat)).2)+if (2:Nat)=(0:Nat) then ((psX c at' t).l 5).hi else (mdG s t s.on (5:Nat)).2)=((wiX c at' s t).l 5).2∧(if 0+at'.toNat*1=16 then t else c.3)+t*s.5=(wiX c at' s t).3∧(rE true↔canP c s t)∧True)):=by kernel_rfl
end Go.Proofs.Ytlhdlkplgafolaa

namespace Go.Proofs.Ytlhdlkplgafolaa
open Go Go.Lg
theorem gdV_cells (f:Nat→Tw):(gdV f).cells=gdC f:=rfl
theorem sc1:Nat.succ (1:Nat)=2:=rfl
end Go.Proofs.Ytlhdlkplgafolaa

set_option maxRecDepth 100000
namespace Go.Proofs.Ytlhdlkplgafolaa
open Go Go.Lg
attribute [local irreducible] funS bodyH
theorem cz_lo (f:Nat→Tw) {z:Nat} (h:z<6):cellZ (gdC f) (z*2)=(f z).lo:=by
 have:z=0∨z=1∨z=2∨z=3∨z=4∨z=5:=by omega
 rcases this with rfl | rfl | rfl | rfl | rfl | rfl <;> rfl
theorem cz_hi (f:Nat→Tw) {z:Nat} (h:z<6):cellZ (gdC f) (z*2+1)=(f z).hi:=by
 have:z=0∨z=1∨z=2∨z=3∨z=4∨z=5:=by omega
 rcases this with rfl | rfl | rfl | rfl | rfl | rfl <;> rfl
theorem cr_lo (c:Crs) {z:Nat} (h:z<6):cellZ c.cells (4+z*2)=(c.l z).lo:=by
 have:z=0∨z=1∨z=2∨z=3∨z=4∨z=5:=by omega
 rcases this with rfl | rfl | rfl | rfl | rfl | rfl <;> rfl
section
variable {F G:Nat→Tw} {z:Nat} {u v:Int} (h1:(G z).lo=u) (h2:(G z).hi=v) (ho:∀ i,i≠z→G i=F i)
include h1 h2 ho
theorem elo {o:Nat} (p:Nat) (hp:p=o+z*2) (c d:Nat) (hd:d=o+2*c):(if p+1=d then v else if p=d then u else (F c).lo)=(G c).lo:=by
 rw [if_neg (by omega)]
 by_cases e:c=z
 ·subst e; rw [if_pos (by omega),h1]
 ·rw [if_neg (by omega),ho c e]
theorem ehi {o:Nat} (p:Nat) (hp:p=o+z*2) (c d:Nat) (hd:d=o+2*c+1):(if p+1=d then v else if p=d then u else (F c).hi)=(G c).hi:=by
 by_cases e:c=z
 ·subst e; rw [if_pos (by omega),h2]
 ·rw [if_neg (by omega),if_neg (by omega),ho c e]
theorem eqs12:(if z*2+1=0 then v else if z*2=0 then u else (F 0).lo)=(G 0).lo∧(if z*2+1=1 then v else if z*2=1 then u else (F 0).hi)=(G 0).hi∧(if z*2+1=2 then v else if z*2=2 then u else (F 1).lo)=(G 1).lo∧(if z*2+1=3 then v else if z*2=3 then u else (F 1).hi)=(G 1).hi∧(if z*2+1=4 then v else if z*2=4 then u else (F 2).lo)=(G 2).lo∧(if z*2+1=5 then v else if z*2=5 then u else (F 2).hi)=(G 2).hi∧(if z*2+1=6 then v else if z*2=6 then u else (F 3).lo)=(G 3).lo∧(if z*2+1=7 then v else if z*2=7 then u else (F 3).hi)=(G 3).hi∧(if z*2+1=8 then v else if z*2=8 then u else (F 4).lo)=(G 4).lo∧(if z*2+1=9 then v else if z*2=9 then u else (F 4).hi)=(G 4).hi∧(if z*2+1=10 then v else if z*2=10 then u else (F 5).lo)=(G 5).lo∧(if z*2+1=11 then v else if z*2=11 then u else (F 5).hi)=(G 5).hi :=
 ⟨elo h1 h2 ho (o:=0) (z*2) (by omega) 0 _ rfl,ehi h1 h2 ho (o:=0) (z*2) (by omega) 0 _ rfl,elo h1 h2 ho (o:=0) (z*2) (by omega) 1 _ rfl,ehi h1 h2 ho (o:=0) (z*2) (by omega) 1 _ rfl,elo h1 h2 ho (o:=0) (z*2) (by omega) 2 _ rfl,ehi h1 h2 ho (o:=0) (z*2) (by omega) 2 _ rfl,elo h1 h2 ho (o:=0) (z*2) (by omega) 3 _ rfl,ehi h1 h2 ho (o:=0) (z*2) (by omega) 3 _ rfl,elo h1 h2 ho (o:=0) (z*2) (by omega) 4 _ rfl,ehi h1 h2 ho (o:=0) (z*2) (by omega) 4 _ rfl,elo h1 h2 ho (o:=0) (z*2) (by omega) 5 _ rfl,ehi h1 h2 ho (o:=0) (z*2) (by omega) 5 _ rfl⟩
theorem eqs16:(if 4+z*2+1=4 then v else if 4+z*2=4 then u else (F 0).lo)=(G 0).lo∧(if 4+z*2+1=5 then v else if 4+z*2=5 then u else (F 0).hi)=(G 0).hi∧(if 4+z*2+1=6 then v else if 4+z*2=6 then u else (F 1).lo)=(G 1).lo∧(if 4+z*2+1=7 then v else if 4+z*2=7 then u else (F 1).hi)=(G 1).hi∧(if 4+z*2+1=8 then v else if 4+z*2=8 then u else (F 2).lo)=(G 2).lo∧(if 4+z*2+1=9 then v else if 4+z*2=9 then u else (F 2).hi)=(G 2).hi∧(if 4+z*2+1=10 then v else if 4+z*2=10 then u else (F 3).lo)=(G 3).lo∧(if 4+z*2+1=11 then v else if 4+z*2=11 then u else (F 3).hi)=(G 3).hi∧(if 4+z*2+1=12 then v else if 4+z*2=12 then u else (F 4).lo)=(G 4).lo∧(if 4+z*2+1=13 then v else if 4+z*2=13 then u else (F 4).hi)=(G 4).hi∧(if 4+z*2+1=14 then v else if 4+z*2=14 then u else (F 5).lo)=(G 5).lo∧(if 4+z*2+1=15 then v else if 4+z*2=15 then u else (F 5).hi)=(G 5).hi :=
 ⟨elo h1 h2 ho (o:=4) (4+z*2) (by omega) 0 _ rfl,ehi h1 h2 ho (o:=4) (4+z*2) (by omega) 0 _ rfl,elo h1 h2 ho (o:=4) (4+z*2) (by omega) 1 _ rfl,ehi h1 h2 ho (o:=4) (4+z*2) (by omega) 1 _ rfl,elo h1 h2 ho (o:=4) (4+z*2) (by omega) 2 _ rfl,ehi h1 h2 ho (o:=4) (4+z*2) (by omega) 2 _ rfl,elo h1 h2 ho (o:=4) (4+z*2) (by omega) 3 _ rfl,ehi h1 h2 ho (o:=4) (4+z*2) (by omega) 3 _ rfl,elo h1 h2 ho (o:=4) (4+z*2) (by omega) 4 _ rfl,ehi h1 h2 ho (o:=4) (4+z*2) (by omega) 4 _ rfl,elo h1 h2 ho (o:=4) (4+z*2) (by omega) 5 _ rfl,ehi h1 h2 ho (o:=4) (4+z*2) (by omega) 5 _ rfl⟩
end
theorem bd_c6 {b:Int} {F:Nat→Tw} (h:bdG b F):bdG b (c6 F):=fun i hi=>by
 have:i=0∨i=1∨i=2∨i=3∨i=4∨i=5:=by omega
 rcases this with rfl | rfl | rfl | rfl | rfl | rfl
 ·exact h 0 (by omega)
 ·exact h 1 (by omega)
 ·exact h 2 (by omega)
 ·exact h 3 (by omega)
 ·exact h 4 (by omega)
 ·exact h 5 (by omega)
theorem bd_ad {a b c:Int} {F G:Nat→Tw} (h:bdG a F) (k:bdG b G) (hc:a+b≤c):bdG c (adG F G):=fun i hi=>by
 have:=h i hi
 have:=k i hi
 simp only [adG]
 omega
theorem bd_z {b:Int} (h:0≤b):bdG b zG:=fun i hi=>by simp only [zG]; omega
theorem bd_mono {a b:Int} {F:Nat→Tw} (h:bdG a F) (k:a≤b):bdG b F:=fun i hi=>by
 have:=h i hi
 omega
theorem mul_bd {a b A B:Int} (h1:0≤a) (h2:a≤A) (h3:0≤b) (h4:b≤B):0≤a*b∧a*b≤A*B:=⟨Int.mul_nonneg h1 h3,Int.mul_le_mul h2 h4 h3 (by omega)⟩
theorem bd_tk {s:Sti} {t:Int} (h:okSt s) (ht:okT t):bdG 10000000 (tkG s t):=fun i hi=>by
 have h1:=mul_bd ht.1 ht.2 (by have:=h.t0; omega:0≤s.takes) h.t1
 have e:(0 - t)*s.takes=-(t*s.takes):=by rw [Int.zero_sub,Int.neg_mul]
 unfold tkG
 split
 ·simp only [e]; omega
 ·simp only; omega
theorem bd_md {s:Sti} {t:Int} (h:okSt s) (ht:okT t):bdG 10000000 (mdG s t s.on):=fun i hi=>by
 unfold mdG
 split
 ·rename_i hk
  have o:=h.o i hk
  have h1:=mul_bd ht.1 ht.2 o.a (Int.le_trans o.b o.c)
  have h2:=mul_bd ht.1 ht.2 (Int.le_trans o.a o.b) o.c
  simp only; omega
 ·simp only; omega
theorem ex_ok:exC.Ok Try.prog:=by
 refine ⟨by kernel_rfl,fun x k hk=>?_⟩
 simp only [exC] at hk
 split at hk
 ·rename_i n
  have hh:exG n:=by rw [exG_vc]; simp
  exact ⟨_,plainD nilS_cs nilS_x nilS_ic hh (by simp [plainS,plainS.plainL]),hk⟩
 ·exact hk.elim
theorem ti_ok:tiC.Ok Try.prog:=by
 refine ⟨by kernel_rfl,fun x k hk=>?_⟩
 simp only [tiC] at hk
 split at hk
 ·rename_i a b n
  obtain ⟨h1,hk⟩:=hk
  have hh:tiG a b n:=by
   rw [tiG_vc]
   simp only [rI,rE,tt3,tt4,tt5,tt13,tt14,rI] at h1
   simp only [rI,and_true,true_and,Nat.zero_lt_one]
   exact h1
  exact ⟨_,plainD nilS_cs nilS_x nilS_ic hh (by simp [plainS,plainS.plainL]),hk⟩
 ·exact hk.elim
theorem gdK_spec {v:SV} {k:(Nat→Tw)→Prop} (h:gdK v k):∃ F,v=gdV F∧k F:=by
 unfold gdK at h
 split at h
 ·exact ⟨_,rfl,h⟩
 ·exact h.elim
theorem crK_spec {v:SV} {k:Crs→Prop} (h:crK v k):∃ c:Crs,v=c.sv∧k c:=by
 unfold crK at h
 split at h
 ·exact ⟨_,rfl,h⟩
 ·exact h.elim
theorem plain_gd (F:Nat→Tw):plainS (gdV F):=by simp [plainS,plainS.plainL,gdV,gdC]
theorem plain_cr (c:Crs):plainS c.sv:=by simp [plainS,plainS.plainL,Crs.sv,Crs.cells]
theorem up_ne {A B:Nat→Tw} {z:Nat}:∀ i,i≠z→upG A B (z+1) i=upG A B z i:=fun i hi=>by
 unfold upG
 by_cases e:i<z
 ·rw [if_pos e,if_pos (by omega)]
 ·rw [if_neg e,if_neg (by omega)]
theorem gp_true {A B:Nat→Tw} (hA:bdG 1000000000000 A) (hB:bdG 1000000000000 B):gpG A B:=by
 rw [gpG_vc]
 simp only [rI,rE,tt3,tt4,tt5,tt13,tt14,rI,rE,tt3,tt4,tt5,tt13,tt14,and_true,true_and,Nat.zero_lt_one,and_self,implies_true,Int.toNat_natCast,Nat.zero_add,Nat.add_zero,Nat.one_mul,Nat.mul_one,Classical.not_not,iff_self,Bool.false_eq_true,imp_false,and_imp,true_implies,forall_const,gdV_cells,sc1]
 have up0:∀ i,upG A B 0 i=A i:=fun i=>by unfold upG; rw [if_neg (by omega)]
 refine ⟨⟨0,by omega,rfl,by simp only [up0,and_self]⟩,fun z hz=>⟨fun hl=>?_,fun hl=>?_⟩⟩
 ·have hz:z<6:=by omega
  have a:=hA z hz
  have b:=hB z hz
  have ez:upG A B z z=A z:=by unfold upG; rw [if_neg (by omega)]
  rw [cz_lo _ hz,cz_hi _ hz,cz_lo _ hz,cz_hi _ hz,ez]
  refine ⟨by omega,by omega,by omega,by omega,by omega,by omega,⟨by omega,by omega⟩,by omega,by omega,by omega,by omega,z+1,by omega,by omega,by omega,?_⟩
  have en:upG A B (z+1) z=adG A B z:=by unfold upG; rw [if_pos (by omega)]
  exact eqs12 (F:=upG A B z) (G:=upG A B (z+1)) (by rw [en]; rfl) (by rw [en]; rfl) up_ne
 ·have:z=6:=by omega
  subst this
  have e:∀ i,i<6→upG A B 6 i=adG A B i:=fun i hi=>by unfold upG; rw [if_pos hi]
  simp only [e 0 (by omega),e 1 (by omega),e 2 (by omega),e 3 (by omega),e 4 (by omega),e 5 (by omega)]
  exact ⟨rfl,rfl,rfl,rfl,rfl,rfl,rfl,rfl,rfl,rfl,rfl,rfl⟩
theorem gp_ok:gpC.Ok Try.prog:=by
 refine ⟨by kernel_rfl,fun x k hk=>?_⟩
 simp only [gpC] at hk
 split at hk
 ·rename_i x y
  obtain ⟨A,rfl,hk2⟩:=gdK_spec hk
  obtain ⟨B,rfl,h1,hk⟩:=gdK_spec hk2
  exact ⟨_,plainD (one_cs pl_ok) nilS_x nilS_ic (gp_true h1.1 h1.2) (plain_gd _),hk⟩
 ·exact hk.elim
theorem sg_true {A B C:Nat→Tw} (hA:bdG 100000000000 A) (hB:bdG 100000000000 B) (hC:bdG 100000000000 C):sgG A B C:=by
 rw [sgG_vc]
 simp only [rI,rE,tt3,tt4,tt5,tt13,tt14,rI,rE,tt3,tt4,tt5,tt13,tt14,and_true,true_and,Nat.zero_lt_one,and_self,implies_true,Int.toNat_natCast,Nat.zero_add,Nat.add_zero,Classical.not_not,iff_self,Bool.false_eq_true,imp_false,and_imp,true_implies,forall_const]
 have z0:=bd_c6 (bd_z (b:=0) (by omega))
 have a:=bd_c6 hA
 have b:=bd_c6 hB
 have c:=bd_c6 hC
 have s1:=bd_c6 (bd_ad z0 a (c:=100000000000) (by omega))
 have s2:=bd_c6 (bd_ad s1 b (c:=200000000000) (by omega))
 and_intros
 all_goals first | omega | exact bd_mono z0 (by omega) | exact bd_mono a (by omega) | exact bd_mono b (by omega) | exact bd_mono c (by omega) | exact bd_mono s1 (by omega) | exact bd_mono s2 (by omega) | rfl | decide
theorem sg_ok:sgC.Ok Try.prog:=by
 refine ⟨by kernel_rfl,fun x k hk=>?_⟩
 simp only [sgC] at hk
 split at hk
 ·rename_i n f
  obtain ⟨hn,hk⟩:=hk
  subst hn
  obtain ⟨A,eA,hk⟩:=gdK_spec hk
  obtain ⟨B,eB,hk⟩:=gdK_spec hk
  obtain ⟨C,eC,h1,hk⟩:=gdK_spec hk
  refine ⟨_,?_,hk⟩
  have hd:=plainD (one_cs gp_ok) (numX_sound nilS_x) nilS_ic (sg_true h1.1 h1.2.1 h1.2.2) (plain_gd _)
  have e:SV.denL [SV.lst 12 3 f]=SV.denL [SV.lst 12 3 (three (gdV A) (gdV B) (gdV C))]:=by
   simp only [SV.denL,SV.den,List.range,List.range.loop,List.map,three,eA,eB,eC]
  rw [e]; exact hd
 ·exact hk.elim
theorem tb_true {s:Sti} {t:Int} (h:okSt s) (ht:okT t):tbG s t:=by
 rw [tbG_vc]
 simp only [rI,rE,tt3,tt4,tt5,tt13,tt14,rI,rE,tt3,tt4,tt5,tt13,tt14,and_true,true_and,Nat.zero_lt_one,and_self,implies_true,Int.toNat_natCast,Nat.zero_add,Nat.add_zero,Classical.not_not,iff_self,Bool.false_eq_true,imp_false,and_imp,true_implies,forall_const]
 have h1:=mul_bd ht.1 ht.2 (by have:=h.t0; omega:0≤s.takes) h.t1
 have e:(0 - t)*s.takes=-(t*s.takes):=by rw [Int.zero_sub,Int.neg_mul]
 have i0:=h.i0
 have i1:=h.i1
 have t0:=ht.1
 have t1:=ht.2
 have ez:tkG s t s.inn.toNat=⟨(0 - t)*s.takes,(0 - t)*s.takes⟩:=by unfold tkG; rw [if_pos (by omega)]
 refine ⟨by omega,by omega,by omega,by omega,by omega,?_⟩
 exact eqs12 (F:=zG) (G:=tkG s t) (z:=s.inn.toNat) (by rw [ez]) (by rw [ez]) fun i hi=>by unfold tkG; rw [if_neg (by omega)]; rfl
theorem tb_ok:tbC.Ok Try.prog:=by
 refine ⟨by kernel_rfl,fun x k hk=>?_⟩
 simp only [tbC] at hk
 split at hk
 ·rename_i a b n h c d t
  obtain ⟨hf,h1,h2,hk⟩:=hk
  have hh:=tb_true h1 h2
  unfold tbG Sti.sv at hh
  simp only at hh
  rw [← hf] at hh
  exact ⟨_,plainD (one_cs ex_ok) nilS_x nilS_ic hh (plain_gd _),hk⟩
 ·exact hk.elim
theorem md_ne {s:Sti} {t:Int} {z:Nat}:∀ i,i≠z→mdG s t (z+1) i=mdG s t z i:=fun i hi=>by
 unfold mdG
 by_cases e:i<z
 ·rw [if_pos e,if_pos (by omega)]
 ·rw [if_neg e,if_neg (by omega)]
theorem mb_true {s:Sti} {t:Int} (h:okSt s) (ht:okT t):mbG s t:=by
 rw [mbG_vc]
 simp only [rI,rE,tt3,tt4,tt5,tt13,tt14,rI,rE,tt3,tt4,tt5,tt13,tt14,and_true,true_and,Nat.zero_lt_one,and_self,implies_true,Int.toNat_natCast,Nat.zero_add,Nat.add_zero,Classical.not_not,iff_self,Bool.false_eq_true,imp_false,and_imp,true_implies,forall_const]
 have up0:∀ i,mdG s t 0 i=⟨0,0⟩:=fun i=>by unfold mdG; rw [if_neg (by omega)]
 refine ⟨⟨0,by omega,rfl,by simp only [up0,and_self]⟩,fun z hz=>⟨fun hl=>?_,fun hl=>?_⟩⟩
 ·have hn:=h.n
  have o:=h.o z (by omega)
  have h1:=mul_bd ht.1 ht.2 o.a (Int.le_trans o.b o.c)
  have h2:=mul_bd ht.1 ht.2 (Int.le_trans o.a o.b) o.c
  refine ⟨by omega,hl,⟨by omega,by omega⟩,by omega,by omega,by omega,by omega,z+1,by omega,by omega,by omega,?_⟩
  have en:mdG s t (z+1) z=⟨t*(s.out z).lo,t*(s.out z).hi⟩:=by unfold mdG; rw [if_pos (by omega)]
  exact eqs12 (F:=mdG s t z) (G:=mdG s t (z+1)) (by rw [en]) (by rw [en]) md_ne
 ·have:z=s.on:=by omega
  subst this
  exact ⟨rfl,rfl,rfl,rfl,rfl,rfl,rfl,rfl,rfl,rfl,rfl,rfl⟩
theorem mb_ok:mbC.Ok Try.prog:=by
 refine ⟨by kernel_rfl,fun x k hk=>?_⟩
 simp only [mbC] at hk
 split at hk
 ·rename_i a b n h c d t
  obtain ⟨hf,h1,h2,hk⟩:=hk
  have hh:=mb_true h1 h2
  unfold mbG Sti.sv at hh
  simp only at hh
  rw [← hf] at hh
  exact ⟨_,plainD (one_cs ti_ok) nilS_x nilS_ic hh (plain_gd _),hk⟩
 ·exact hk.elim
theorem nc_true {n:Nat} {st:Nat→Int} (hn:n≤6):ncG n st:=by
 rw [ncG_vc]
 simp only [rI,rE,tt3,tt4,tt5,tt13,tt14,rI,rE,tt3,tt4,tt5,tt13,tt14,and_true,true_and,Nat.zero_lt_one,and_self,implies_true,Int.toNat_natCast,Nat.zero_add,Nat.add_zero,Classical.not_not,iff_self,Bool.false_eq_true,imp_false,and_imp,true_implies,forall_const]
 have up0:∀ i,(stC 0 st).l i=⟨0,0⟩:=fun i=>by simp only [stC]; rw [if_neg (by omega)]
 refine ⟨⟨0,by omega,rfl,by simp only [up0,and_self]⟩,fun z hz=>⟨fun hl=>?_,fun hl=>?_⟩⟩
 ·refine ⟨by omega,hl,by omega,by omega,by omega,by omega,z+1,by omega,by omega,by omega,?_⟩
  have en:(stC (z+1) st).l z=⟨st z,st z⟩:=by simp only [stC]; rw [if_pos (by omega)]
  have ne:∀ i,i≠z→(stC (z+1) st).l i=(stC z st).l i:=fun i hi=>by
   simp only [stC]
   by_cases e:i<z
   ·rw [if_pos e,if_pos (by omega)]
   ·rw [if_neg e,if_neg (by omega)]
  obtain ⟨g0,g1,g2,g3,g4,g5,g6,g7,g8,g9,g10,g11⟩:=eqs16 (F:=(stC z st).l) (G:=(stC (z+1) st).l) (z:=z) (u:=st z) (v:=st z) (by rw [en]) (by rw [en]) ne
  have w:∀ d,d<4∨15<d→(if 4+z*2+1=d then st z else if 4+z*2=d then st z else 0)=0:=fun d hd=>by rw [if_neg (by omega),if_neg (by omega)]
  exact ⟨w 0 (by omega),w 1 (by omega),w 2 (by omega),w 3 (by omega),g0,g1,g2,g3,g4,g5,g6,g7,g8,g9,g10,g11,w 16 (by omega)⟩
 ·have:z=n:=by omega
  subst this
  and_intros <;> rfl
theorem nc_ok:ncC.Ok Try.prog:=by
 refine ⟨by kernel_rfl,fun x k hk=>?_⟩
 simp only [ncC] at hk
 split at hk
 ·rename_i n f
  obtain ⟨hf,hn,hk⟩:=hk
  have hh:=nc_true (st:=iOf f) hn
  unfold ncG at hh
  rw [← hf] at hh
  exact ⟨_,plainD (one_cs ex_ok) nilS_x nilS_ic hh (plain_cr _),hk⟩
 ·exact hk.elim
theorem ps_l {c:Crs} {a t:Int} (h:0≤a∧a≤3):(psX c a t).l=c.l∧(psX c a t).c=c.c:=by
 refine ⟨funext fun i=>?_,?_⟩
 ·simp only [psX]
  rw [if_neg (by omega),if_neg (by omega)]
 ·simp only [psX]
  rw [if_neg (by omega)]
theorem wi_true {c:Crs} {a:Int} {s:Sti} {t:Int} (ha:0≤a∧a≤3) (h:okSt s) (ht:okT t) (hc:bdC 10000000000 c):wiG c a s t:=by
 rw [wiG_vc]
 simp only [rI,rE,tt3,tt4,tt5,tt13,tt14,rI,rE,tt3,tt4,tt5,tt13,tt14,and_true,true_and,Nat.zero_lt_one,and_self,implies_true,Int.toNat_natCast,Nat.zero_add,Nat.add_zero,Nat.mul_one,Classical.not_not,iff_self,Bool.false_eq_true,imp_false,and_imp,true_implies,forall_const,ft_fold]
 have h1:=mul_bd ht.1 ht.2 (by have:=h.t0; omega:0≤s.takes) h.t1
 have h2:=mul_bd ht.1 ht.2 h.p0 h.p1
 have i0:=h.i0
 have i1:=h.i1
 rw [cr_lo c (by omega:s.inn.toNat<6)]
 obtain ⟨e1,e2⟩:=ps_l (c:=c) (t:=t) ha
 rw [e1]
 refine ⟨by omega,by omega,by omega,by omega,fun hn=>?_,fun hn=>?_⟩
 ·have hcn:¬ canP c s t:=by unfold canP; omega
  rw [wiX,if_neg hcn]
  exact ⟨rfl,rfl,rfl,rfl,rfl,rfl,rfl,rfl,rfl,rfl,rfl,rfl,rfl,rfl,rfl,rfl,rfl,fF hcn⟩
 ·have hcn:canP c s t:=by unfold canP; omega
  rw [wiX,if_pos hcn]
  have hcc:=hc.2
  have e16:(if a.toNat=16 then t else c.c)=c.c:=if_neg (by omega)
  rw [e16]
  have pe:∀ i:Nat,(if a.toNat=i then t else c.p i)=(nxC c a s t).p i:=fun i=>by
   simp only [nxC]
   by_cases e:a.toNat=i
   ·rw [if_pos e,if_pos (by omega)]
   ·rw [if_neg e,if_neg (by omega)]
  refine ⟨by omega,by omega,by omega,rfl,h,ht,rfl,h,ht,⟨bd_c6 (bd_mono hc.1 (by omega)),bd_c6 (bd_mono (bd_tk h ht) (by omega)),bd_c6 (bd_mono (bd_md h ht) (by omega))⟩,by omega,by omega,pe 0,pe 1,pe 2,pe 3,rfl,rfl,rfl,rfl,rfl,rfl,rfl,rfl,rfl,rfl,rfl,rfl,rfl,⟨fun _=>hcn,fun _=>trivial⟩⟩
theorem wi_cs:SoundS Try.prog (ctrs [tbC,mbC,sgC]):=three_cs tb_ok mb_ok sg_ok
theorem wi_ok:wiC.Ok Try.prog:=by
 refine ⟨by kernel_rfl,fun x k hk=>?_⟩
 simp only [wiC] at hk
 split at hk
 ·rename_i v a x b n h y z t
  obtain ⟨c,rfl,hf,h1,h2,h3,h4,hk⟩:=crK_spec hk
  have hh:=wi_true h1 h2 h3 h4
  unfold wiG Sti.sv at hh
  simp only at hh
  rw [← hf] at hh
  exact ⟨_,plainD wi_cs nilS_x nilS_ic hh (by simp [plainS,plainS.plainL,Crs.sv,Crs.cells]),hk⟩
 ·exact hk.elim
end Go.Proofs.Ytlhdlkplgafolaa
