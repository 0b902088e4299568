import Derived.Test.YtfiaadlgfjokjaaQaQaVQb
set_option linter.unusedVariables false
set_option linter.unusedSimpArgs false
namespace Go.Proofs.Ytfiaadlgfjokjaa
open Go Go.Lg
attribute [local irreducible] bodyH funS
open Classical in
noncomputable def dn (M:Ms):Nat→Nat
 | 0=>0
 | k+1=>if (M.f k).co=-1 then dn M k+1 else dn M k
open Classical in
noncomputable def dsI (M:Ms) (a:Int) (i:Nat):Int:=if (M.f i).co=-1 then (if (dn M i:Int)<a then (M.f i).tn else 0) else 0
noncomputable def ds (M:Ms) (a:Int) (k:Nat):Int:=sumJ (dsI M a) k
open Classical in
noncomputable def drE (Y:Yd) (a b:Int):Int:=if ckY Y=0 then (if a<0∨b<a∨(dn Y.m Y.m.n:Int)≤b then 2 else 0) else ckY Y
open Classical in
noncomputable def drS (Y:Yd) (a b:Int):Tw:=if drE Y a b=0 then ⟨ds Y.m a Y.m.n,ds Y.m (b+1) Y.m.n⟩ else ⟨0,0⟩
noncomputable def drC:Ctr:=⟨30,fun args k=>match args with
 | [.agg [.lst 8 n f,.lst 3 m g],.int .i64 a,.int .i64 b]=>SV.lst 8 n f=(clOf n f).sv∧SV.lst 3 m g=(msOf m g).sv∧k (.tup [(drS ⟨clOf n f,msOf m g⟩ a b).sv,i6 (drE ⟨clOf n f,msOf m g⟩ a b)])
 | _=>False⟩
noncomputable def drG (Y:Yd) (a b:Int):Prop:=funH Try.prog (ctrs [ckC]) noX (ictrs [])
 (oneL 0 (natH (fun k=>k≤Y.m.n∧ckY Y=0) (fun k=>Y.m.n - k) 3 (fun k=>mkF 64 [(1,i6 a),(2,i6 b),(3,.ptr 0 0 0),(6,.ptr 1 0 0),(9,.ptr 2 0 0),(10,i6 (dn Y.m k)),(20,Y.m.sv),(21,i6 Y.m.n),(22,i6 k)])
  (fun k=>mkX [vr 2 Y.sv,vr 2 (Tw.sv ⟨0,0⟩),vr 2 (Tw.sv ⟨ds Y.m a k,ds Y.m (b+1) k⟩)]) fun _=>none)) noL 30 [Y.sv,i6 a,i6 b] (.tup [(drS Y a b).sv,i6 (drE Y a b)])
def uoI (M:Ms) (i:Nat):Int:=if (M.f i).co=-1 then (M.f i).tn else 0
def uaI (M:Ms) (i:Nat):Int:=if (M.f i).co=-1 then 0 else (M.f i).tn
noncomputable def udS (M:Ms) (k:Nat):Tw:=⟨sumJ (uoI M) k,sumJ (uaI M) k⟩
noncomputable def unC:Ctr:=⟨36,fun args k=>match args with
 | [.lst 3 n f]=>SV.lst 3 n f=(msOf n f).sv∧(∃ c:Int,okMs c (msOf n f))∧k (udS (msOf n f) n).sv
 | _=>False⟩
noncomputable def unG (M:Ms):Prop:=funH Try.prog (ctrs []) noX (ictrs [])
 (oneL 0 (natH (fun k=>k≤M.n) (fun k=>M.n - k) 2 (fun k=>mkF 29 [(2,.ptr 0 0 0),(3,.ptr 1 0 0),(6,M.sv),(7,i6 M.n),(8,i6 k)]) (fun k=>mkX [vr 2 (Tw.sv ⟨0,0⟩),vr 2 (udS M k).sv]) fun _=>none)) noL 36 [M.sv] (udS M M.n).sv
def jnM (M:Ms) (j:Nat):Prop:=j<M.n∧(M.f j).co≠-1∧(M.f j).hr=(M.f (j - 1)).hr
noncomputable def jnC:Ctr:=⟨69,fun args k=>match args with
 | [.lst 3 n f,.int .i64 j]=>SV.lst 3 n f=(msOf n f).sv∧(1≤j∧j≤n∧n≤1000)∧k (.dec (jnM (msOf n f) j.toNat) (Classical.propDecidable _))
 | _=>False⟩
noncomputable def jnG (M:Ms) (j:Int):Prop:=funH Try.prog (ctrs []) noX (ictrs []) noL noL 69 [M.sv,i6 j] (.dec (jnM M j.toNat) (Classical.propDecidable _))
structure La where
 c0:Int
 c1:Int
 c2:Int
 c3:Int
 c4:Int
 c5:Int
 fr:Int
 to:Int
def La.sv (l:La):SV:=.agg [i6 l.c0,i6 l.c1,i6 l.c2,i6 l.c3,i6 l.c4,i6 l.c5,i6 l.fr,i6 l.to]
def zL:La:=⟨0,0,0,0,0,0,0,0⟩
def La.add (l:La) (m:Mv):La:=⟨if m.co.toNat=0 then l.c0+m.tn else l.c0,if m.co.toNat=1 then l.c1+m.tn else l.c1,if m.co.toNat=2 then l.c2+m.tn else l.c2,
 if m.co.toNat=3 then l.c3+m.tn else l.c3,if m.co.toNat=4 then l.c4+m.tn else l.c4,if m.co.toNat=5 then l.c5+m.tn else l.c5,l.fr,l.to+m.tn⟩
def nwL (t:Int):La:=⟨0,0,0,0,0,0,t,t⟩
open Classical in
noncomputable def cuL (M:Ms):Nat→La
 | 0=>zL
 | k+1=>if (M.f k).co=-1 then cuL M k else (if jnM M (k+1) then (cuL M k).add (M.f k) else nwL ((cuL M k).add (M.f k)).to)
open Classical in
noncomputable def lyL (M:Ms):Nat→List La
 | 0=>[]
 | k+1=>if (M.f k).co=-1 then lyL M k else (if jnM M (k+1) then lyL M k else lyL M k ++ [(cuL M k).add (M.f k)])
noncomputable def lyF (M:Ms) (j:Nat):La:=(lyL M M.n).getD j zL
structure lyP (M:Ms):Prop where
 n:M.n≤32
 h:∀ i,i<M.n→-1≤(M.f i).co∧(M.f i).co<6∧1≤(M.f i).tn∧(M.f i).tn≤1048576
noncomputable def liC:ICtr:=⟨68,fun fs us k=>match fs,us with
 | [],[.ipt [.lst 3 n f]]=>SV.lst 3 n f=(msOf n f).sv∧lyP (msOf n f)∧k (lyL (msOf n f) n).length 2 fun j=>[i6 j,(lyF (msOf n f) j).sv]
 | _,_=>False⟩
noncomputable def liG (M:Ms):Prop:=itH Try.prog (ctrs [jnC]) noX (ictrs [])
 (oneL 0 (natH (fun k=>k≤M.n∧(lyL M k).length≤(lyL M M.n).length) (fun k=>M.n - k) 2 (fun k=>mkF 55 [(0,.yld 0),(1,.ipt [M.sv]),(3,i6 (lyL M k).length),(4,.ptr 1 0 0),(7,M.sv),(8,i6 M.n),(9,i6 k)]) (fun k=>mkX [none,vr 8 (cuL M k).sv]) fun k=>some (lyL M k).length))
 noL 68 [] [.ipt [M.sv]] (lyL M M.n).length fun j=>[i6 j,(lyF M j).sv]
noncomputable def lsC:Ctr:=⟨51,fun args k=>match args with
 | [.lst 3 n f]=>SV.lst 3 n f=(msOf n f).sv∧k (.clo (.func 68) [] [.ipt [(msOf n f).sv]])
 | _=>False⟩
noncomputable def lsG (M:Ms):Prop:=funH Try.prog (ctrs []) noX (ictrs []) noL noL 51 [M.sv] (.clo (.func 68) [] [.ipt [M.sv]])
def cmT (a b:Tw):Int:=max 0 (min a.hi b.hi - max a.lo b.lo)
def cmC:Ctr:=⟨52,fun args k=>match args with
 | [.agg [.int .i64 a,.int .i64 b],.agg [.int .i64 c,.int .i64 d]]=>rI (min b d - max a c)∧k (i6 (cmT ⟨a,b⟩ ⟨c,d⟩))
 | _=>False⟩
noncomputable def cmG (a b:Tw):Prop:=funH Try.prog (ctrs []) noX (ictrs []) noL noL 52 [a.sv,b.sv] (i6 (cmT a b))
structure Pn where
 l:La
 nu:Int
 tn:Int
def Pn.sv (p:Pn):SV:=.agg [i6 p.l.c0,i6 p.l.c1,i6 p.l.c2,i6 p.l.c3,i6 p.l.c4,i6 p.l.c5,i6 p.l.fr,i6 p.l.to,i6 p.nu,i6 p.tn]
def pnOf:SV→Pn
 | .agg [.int _ a,.int _ b,.int _ c,.int _ d,.int _ e,.int _ f,.int _ g,.int _ h,.int _ i,.int _ j]=>⟨⟨a,b,c,d,e,f,g,h⟩,i,j⟩
 | _=>⟨zL,0,0⟩
def zP:Pn:=⟨zL,0,0⟩
def La.st (l:La):Tw:=⟨l.fr,l.to⟩
open Classical in
noncomputable def poL (f:Nat→La) (s:Tw):Nat→List Pn
 | 0=>[]
 | k+1=>if 0<cmT s (f k).st then poL f s k ++ [⟨f k,k,cmT s (f k).st⟩] else poL f s k
noncomputable def poM (M:Ms) (s:Tw) (k:Nat):List Pn:=poL (lyF M) s k
def lP (l:List Pn):SV:=.lst 10 l.length fun i=>(l.getD i zP).sv
noncomputable def poC:Ctr:=⟨32,fun args k=>match args with
 | [.lst 3 n f,.agg [.int .i64 a,.int .i64 b]]=>SV.lst 3 n f=(msOf n f).sv∧lyP (msOf n f)∧(-1000000000≤a∧a≤1000000000∧-1000000000≤b∧b≤1000000000)∧k (lP (poM (msOf n f) ⟨a,b⟩ (lyL (msOf n f) n).length))
 | _=>False⟩
def slR:Option SRow→Option Nat
 | some R=>(match R.f 0 with
  | .sl r _ _=>some r
  | _=>none)
 | none=>none
noncomputable def poS (M:Ms) (s:Tw):ISpecR:={ τ:=Unit,rdt:=fun _ _ k=>k (),rdtOK:=fun _ _ _ h=>⟨(),h⟩,s:=fun _=>{
 σ:=Nat
 inv:=fun j z=>z=j∧j≤(lyL M M.n).length
 nr:=2
 ms:=fun _ X=>[slR (X.row 1)]
 t:=mkF 27 [(3,.ptr 0 0 0),(5,.ptr 1 0 0)]
 X:=fun j=>mkX [vr 2 s.sv,vr 1 (.sl 2 0 (poM M s j).length),rw' 10 (poM M s j).length fun i=>((poM M s j).getD i zP).sv]
 q:=fun j _=>none
 rd:=fun _ _ k=>∃ z,k z
 rdOK:=fun _ _ _ h=>h } }
noncomputable def poG (M:Ms) (s:Tw):Prop:=funN Try.prog (ctrsF [lsC] (ctrs [cmC])) noX (ictrs [liC]) noL (oneL 0 (poS M s)) 32 [M.sv,s.sv] (lP (poM M s (lyL M M.n).length))
structure Pt where
 nu:Int
 tn:Int
def Pt.sv (p:Pt):SV:=.agg [i6 p.nu,i6 p.tn]
def Pn.pt (p:Pn):Pt:=⟨p.nu,p.tn⟩
def ptL (n:Nat) (f:Nat→Pt):SV:=.lst 2 n fun i=>(f i).sv
noncomputable def paC:Ctr:=⟨31,fun args k=>match args with
 | [.lst 10 n f]=>SV.lst 10 n f=(.lst 10 n fun i=>(pnOf (f i)).sv)∧n≤1000∧k (ptL n fun i=>(pnOf (f i)).pt)
 | _=>False⟩
noncomputable def paG (n:Nat) (f:Nat→Pn):Prop:=funN Try.prog (ctrs []) noX (ictrs [])
 (oneL 0 (appN 22 3 (fun k=>k≤n) (fun k=>n - k) 0 (fun k=>mkF 22 [(3,.sl 0 0 k),(6,.lst 10 n fun i=>(f i).sv),(7,i6 n),(8,i6 k)]) fun k=>mkX [rw' 2 k fun i=>(f i).pt.sv])) noL 31 [.lst 10 n fun i=>(f i).sv] (ptL n fun i=>(f i).pt)
end Go.Proofs.Ytfiaadlgfjokjaa

set_option maxRecDepth 100000
namespace Go.Proofs.Ytfiaadlgfjokjaa
open Go Go.Lg
def drG0 (Y:Yd):Prop:=(∀ (i:Nat),i<Y.m.1→rE ((Y.m.f i).sv.den)∧True∧True∧True∧True)
def drG1 (Y:Yd):Prop:=(∀ (i:Nat),i<Y.c.1→rE ((Y.c.f i).sv.den)∧True∧True∧True∧True∧True∧True∧True∧True∧True)
theorem drG_vc (Y:Yd) (a:Int) (b:Int):drG Y a b=((0:Nat)<(1:Nat)∧tA Y∧tB Y∧tC Y∧tD Y∧(¬ckY Y=(0:Int)→(0:Nat)<(1:Nat)∧(0:Int)=(drS Y a b).1∧(0:Int)=(drS Y a b).2∧ckY Y=drE Y a b∧True)∧(¬¬ckY Y=(0:Int)→(0:Nat)<(1:Nat)∧(∃ (z:Nat),(z≤Y.m.1∧ckY Y=(0:Int))∧a=a∧b=b∧rE (0:Nat)∧rE (0:Nat)∧rE (0:Nat)∧rE (0:Nat)∧rE (0:Nat)∧rE (0:Nat)∧(0:Int)=(↑(dn Y.m z):Int)∧rE Y.m.1∧(drG0 Y)∧rE (↑Y.m.1:Int)∧(0:Int)=(↑z:Int)∧rE Y.c.1∧(drG1 Y)∧rE Y.m.1∧(drG0 Y)∧rE (0:Int)∧rE (0:Int)∧(0:Int)=ds Y.m a z∧(0:Int)=ds Y.m (b+(1:Int)) z∧True)∧∀ (z:Nat),z≤Y.m.1∧ckY Y=(0:Int)→((↑z:Int)<(↑Y.m.1:Int)→(0:Int)≤(↑z:Int)∧(↑z:Int)<(↑Y.m.1:Int)∧(0:Nat)<(1:Nat)∧(¬(Y.m.f (↑z:Int).toNat).2=(-1:Int)→rI ((↑z:Int)+(1:Int))∧∃ (z_1:Nat),(z_1≤Y.m.1∧ckY Y=(0
: Int))∧Y.m.1 - z_1<Y.m.1 - z∧a=a∧b=b∧rE (0:Nat)∧rE (0:Nat)∧rE (0:Nat)∧rE (0:Nat)∧rE (0:Nat)∧rE (0:Nat)∧(↑(dn Y.m z):Int)=(↑(dn Y.m z_1):Int)∧rE Y.m.1∧(drG0 Y)∧rE (↑Y.m.1:Int)∧(↑z:Int)+(1:Int)=(↑z_1:Int)∧rE Y.c.1∧(drG1 Y)∧rE Y.m.1∧(drG0 Y)∧rE (0:Int)∧rE (0:Int)∧ds Y.m a z=ds Y.m a z_1∧ds Y.m (b+(1:Int)) z=ds Y.m (b+(1:Int)) z_1∧True)∧(¬¬(Y.m.f (↑z:Int).toNat).2=(-1:Int)→((↑(dn Y.m z):Int)<a→(0:Nat)<(1:Nat)∧(0:Nat)<(1:Nat)∧rI (ds Y.m a z+(Y.m.f (↑z:Int).toNat).3)∧((↑(dn Y.m z):Int)≤b→(0:Nat)<(1:Nat)∧(0:Nat)<(1:Nat)∧rI (ds Y.m (b+(1:Int)) z+(Y.m.f (↑z:Int).toNat).3)∧rI ((↑(dn Y.m z):Int)+(1:Int))∧rI ((↑z:Int)+(1:Int))∧∃ (z_1:Nat),(z_1≤Y.m.1∧ckY Y=(0:Int))∧Y.m.1 - z_1<Y.m.1 - z∧a=a∧b=b
∧ rE (0:Nat)∧rE (0:Nat)∧rE (0:Nat)∧rE (0:Nat)∧rE (0:Nat)∧rE (0:Nat)∧(↑(dn Y.m z):Int)+(1:Int)=(↑(dn Y.m z_1):Int)∧rE Y.m.1∧(drG0 Y)∧rE (↑Y.m.1:Int)∧(↑z:Int)+(1:Int)=(↑z_1:Int)∧rE Y.c.1∧(drG1 Y)∧rE Y.m.1∧(drG0 Y)∧rE (0:Int)∧rE (0:Int)∧ds Y.m a z+(Y.m.f (↑z:Int).toNat).3=ds Y.m a z_1∧ds Y.m (b+(1:Int)) z+(Y.m.f (↑z:Int).toNat).3=ds Y.m (b+(1:Int)) z_1∧True)∧(¬(↑(dn Y.m z):Int)≤b→rI ((↑(dn Y.m z):Int)+(1:Int))∧rI ((↑z:Int)+(1:Int))∧∃ (z_1:Nat),(z_1≤Y.m.1∧ckY Y=(0:Int))∧Y.m.1 - z_1<Y.m.1 - z∧a=a∧b=b∧rE (0:Nat)∧rE (0:Nat)∧rE (0:Nat)∧rE (0:Nat)∧rE (0:Nat)∧rE (0:Nat)∧(↑(dn Y.m z):Int)+(1:Int)=(↑(dn Y.m z_1):Int)∧rE Y.m.1∧(drG0 Y)∧rE (↑Y.m.1:Int)∧(↑z:Int)+(1:Int)=(↑z_1:Int)∧rE Y.c.1∧(drG1 Y) ∧
rE Y.m.1∧(drG0 Y)∧rE (0:Int)∧rE (0:Int)∧ds Y.m a z+(Y.m.f (↑z:Int).toNat).3=ds Y.m a z_1∧ds Y.m (b+(1:Int)) z=ds Y.m (b+(1:Int)) z_1∧True))∧(¬(↑(dn Y.m z):Int)<a→((↑(dn Y.m z):Int)≤b→(0:Nat)<(1:Nat)∧(0:Nat)<(1:Nat)∧rI (ds Y.m (b+(1:Int)) z+(Y.m.f (↑z:Int).toNat).3)∧rI ((↑(dn Y.m z):Int)+(1:Int))∧rI ((↑z:Int)+(1:Int))∧∃ (z_1:Nat),(z_1≤Y.m.1∧ckY Y=(0:Int))∧Y.m.1 - z_1<Y.m.1 - z∧a=a∧b=b∧rE (0:Nat)∧rE (0:Nat)∧rE (0:Nat)∧rE (0:Nat)∧rE (0:Nat)∧rE (0:Nat)∧(↑(dn Y.m z):Int)+(1:Int)=(↑(dn Y.m z_1):Int)∧rE Y.m.1∧(drG0 Y)∧rE (↑Y.m.1:Int)∧(↑z:Int)+(1:Int)=(↑z_1:Int)∧rE Y.c.1∧(drG1 Y)∧rE Y.m.1∧(drG0 Y)∧rE (0:Int)∧rE (0:Int)∧ds Y.m a z=ds Y.m a z_1∧ds Y.m (b+(1:Int)) z+(Y.m.f (↑z:Int).toNat).3=ds Y.m (b +
(1:Int)) z_1∧True)∧(¬(↑(dn Y.m z):Int)≤b→rI ((↑(dn Y.m z):Int)+(1:Int))∧rI ((↑z:Int)+(1:Int))∧∃ (z_1:Nat),(z_1≤Y.m.1∧ckY Y=(0:Int))∧Y.m.1 - z_1<Y.m.1 - z∧a=a∧b=b∧rE (0:Nat)∧rE (0:Nat)∧rE (0:Nat)∧rE (0:Nat)∧rE (0:Nat)∧rE (0:Nat)∧(↑(dn Y.m z):Int)+(1:Int)=(↑(dn Y.m z_1):Int)∧rE Y.m.1∧(drG0 Y)∧rE (↑Y.m.1:Int)∧(↑z:Int)+(1:Int)=(↑z_1:Int)∧rE Y.c.1∧(drG1 Y)∧rE Y.m.1∧(drG0 Y)∧rE (0:Int)∧rE (0:Int)∧ds Y.m a z=ds Y.m a z_1∧ds Y.m (b+(1:Int)) z=ds Y.m (b+(1:Int)) z_1∧True))))∧(¬(↑z:Int)<(↑Y.m.1:Int)→(a<(0:Int)→(0:Nat)<(1:Nat)∧(0:Int)=(drS Y a b).1∧(0:Int)=(drS Y a b).2∧(2:Int)=drE Y a b∧True)∧(¬a<(0:Int)→(b<a→(0:Nat)<(1:Nat)∧(0:Int)=(drS Y a b).1∧(0:Int)=(drS Y a b).2∧(2:Int)=drE Y
a b∧True)∧(¬b<a→((↑(dn Y.m z):Int)≤b→(0:Nat)<(1:Nat)∧(0:Int)=(drS Y a b).1∧(0:Int)=(drS Y a b).2∧(2:Int)=drE Y a b∧True)∧(¬(↑(dn Y.m z):Int)≤b→(0:Nat)<(1:Nat)∧(0:Nat)<(1:Nat)∧ds Y.m a z=(drS Y a b).1∧ds Y.m (b+(1:Int)) z=(drS Y a b).2∧(0:Int)=drE Y a b∧True)))))):=by kernel_rfl
theorem unG_vc (M:Ytfiaadlgfjokjaa.Ms):unG M=((∃ (z:Nat),z≤M.1∧rE (0:Nat)∧rE (0:Nat)∧rE (0:Nat)∧rE (0:Nat)∧M.1=M.1∧(∀ (i:Nat),i<M.1→rE ((M.f i).sv.den)∧True∧True∧True∧True)∧rE (↑M.1:Int)∧(0:Int)=(↑z:Int)∧rE (0:Int)∧rE (0:Int)∧(0:Int)=sumJ (uoI M) z∧(0:Int)=sumJ (uaI M) z∧True)∧∀ (z:Nat),z≤M.1→((↑z:Int)<(↑M.1:Int)→(0:Int)≤(↑z:Int)∧(↑z:Int)<(↑M.1:Int)∧(0:Nat)<(1:Nat)∧((M.f (↑z:Int).toNat).2=(-1:Int)→(0:Nat)<(1:Nat)∧(0:Nat)<(1:Nat)∧rI (sumJ (uoI M) z+(M.f (↑z:Int).toNat).3)∧rI ((↑z:Int)+(1:Int))∧∃ (z_1:Nat),z_1≤M.1∧M.1 - z_1<M.1 - z∧rE (0:Nat)∧rE (0:Nat)∧rE (0:Nat)∧rE (0:Nat)∧M.1=M.1∧(∀ (i:Nat),i<M.1→rE ((M.f i).sv.den)∧True∧True∧True∧True)∧rE (↑M.1:Int)∧(↑z:Int)+(1:Int)=(↑z_1:Int)∧rE (0:Int)∧rE (0:Int)∧sumJ (uoI M) z+(M.f (↑z:Int).toNat).3=sumJ (uoI M) z_1∧sumJ (uaI M) z=sumJ (uaI M) z_1∧True)∧(¬(M.f (↑z:Int).toNat).2=(-1:Int)→(0:Nat)<(1:Nat)∧(0:Nat)<(1:Nat)∧rI (sumJ (uaI M) z+(M.f (↑z:Int).toNat).3)∧rI ((↑z:Int)+(1:Int))∧∃ (z_1:Nat),z_1≤M.1∧M.1 - z_1<M.1 - z∧rE (0:Nat)∧rE (0:Nat)∧rE (0:Nat)∧rE (0:Nat)∧M.1=M.1∧(∀ (i:Nat),i<M.1→rE ((M.f i).sv.den)∧True∧True∧True∧True)∧rE (↑M.1:Int)∧(↑z:Int)+(1:Int)=(↑z_1:Int)∧rE (0:Int)∧rE (0:Int) ∧
sumJ (uoI M) z=sumJ (uoI M) z_1∧sumJ (uaI M) z+(M.f (↑z:Int).toNat).3=sumJ (uaI M) z_1∧True))∧(¬(↑z:Int)<(↑M.1:Int)→(0:Nat)<(1:Nat)∧(0:Nat)<(1:Nat)∧sumJ (uoI M) z=sumJ (uoI M) M.1∧sumJ (uaI M) z=sumJ (uaI M) M.1∧True)):=by kernel_rfl
theorem jnG_vc (M:Ytfiaadlgfjokjaa.Ms) (j:Int):jnG M j=((j<(↑M.1:Int)→(0:Int)≤j∧j<(↑M.1:Int)∧(¬(M.f j.toNat).2=(-1:Int)→(0:Int)≤j∧j<(↑M.1:Int)∧((-9223372036854775808:Int)≤j - (1:Int)∧j - (1:Int)≤(9223372036854775807:Int))∧(0:Int)≤j - (1:Int)∧j - (1:Int)<(↑M.1:Int)∧((M.f j.toNat).1=(M.f (j - (1:Int)).toNat).1↔jnM M j.toNat)∧True)∧(¬¬(M.f j.toNat).2=(-1:Int)→(false=true↔jnM M j.toNat)∧True))∧(¬j<(↑M.1:Int)→(false=true↔jnM M j.toNat)∧True)):=by kernel_rfl
theorem liG_vc (M:Ytfiaadlgfjokjaa.Ms):liG M=((∃ (z:Nat),(z≤M.1∧(lyL M z).length≤(lyL M M.n).length)∧(0:Nat)=(lyL M z).length∧rE (SV.denL [M.sv])∧((∀ (i:Nat),i<M.1→True∧True∧True∧True)∧True)∧(0:Int)=(↑(lyL M z).length:Int)∧rE (0:Nat)∧rE (0:Nat)∧M.1=M.1∧(∀ (i:Nat),i<M.1→rE ((M.f i).sv.den)∧True∧True∧True∧True)∧rE (↑M.1:Int)∧(0:Int)=(↑z:Int)∧(0:Int)=(cuL M z).1∧(0:Int)=(cuL M z).2∧(0:Int)=(cuL M z).3∧(0:Int)=(cuL M z).4∧(0:Int)=(cuL M z).5∧(0:Int)=(cuL M z).6∧(0:Int)=(cuL M z).7∧(0:Int)=(cuL M z).8∧True)∧∀ (z:Nat),z≤M.1∧(lyL M z).length≤(lyL M M.n).length→((↑z:Int)<(↑M.1:Int)→(0:Int)≤(↑z:Int)∧(↑z:Int)<(↑M.1:Int)∧(0:Nat)<(1:Nat)∧((M.f (↑z:Int).toNat).2=(-1:Int)→rI ((↑z:Int)+(1:Int))∧∃ (z_1:Nat),(z_1≤M.1∧(lyL M z_1).length≤(lyL M M.n).length)∧M.1 - z_1<M.1 - z∧(lyL M z).length=(lyL M z_1).length∧rE (SV.denL [M.sv])∧((∀ (i:Nat),i<M.1→True∧True∧True∧True)∧True)∧(↑(lyL M z).length:Int)=(↑(lyL M z_1).length:Int)∧rE (0:Nat)∧rE (0:Nat)∧M.1=M.1∧(∀ (i:Nat),i<M.1→rE ((M.f i).sv.den)∧True∧True∧True∧True)∧rE (↑M.1:Int)∧(↑z:Int)+(1:Int)=(↑z_1:Int)∧(cuL M z).1=(cuL M z_1).1∧(cuL M z).2=(cuL M z_1).2∧(cuL M z).3=(cuL M z_1).3∧(cuL M z).4=(cuL M z_1).4∧(cuL M z).5=(cuL M z_1).5∧(cuL M z).6=(cuL M z_1).6∧(cuL M z).7=(cuL M z_1).7∧(cuL M z).8=(cuL M z_1).8∧True)∧(¬(M.f (↑z:Int).toNat).2=(-1:Int)→(0:Nat)<(1:Nat)∧(0:Int)≤(M.f (↑z:Int).toNat).2∧(M.f (↑z:Int).toNat).2<(↑(6:Nat):Int)∧(0:Nat)<(1:Nat)∧(0:Nat)+(M.f (↑z:Int).toNat).2.toNat*(1:Nat)<(8:Nat)∧(0:Nat)<(1:Nat)∧rI (cellZ (cuL M z).sv.cells ((0:Nat)+(M.f (↑z:Int).toNat).2.toNat*(1:Nat))+(M.f (↑z:Int).toNat).3)∧(0:Int)≤(M.f (↑z:Int).toNat).2∧(M.f (↑z:Int).toNat).2<(↑(6:Nat):Int)∧(0:Nat)+(M.f (↑z:Int).toNat).2.toNat*(1:Nat)<(8:Nat)∧(0:Nat)<(1:Nat)∧(0:Nat)<(1:Nat)∧rI ((if (0:Nat)+(M.f (↑z:Int).toNat).2.toNat*(1:Nat)=(0:Nat)+(1:Nat)+(1:Nat)+(1:Nat)+(1:Nat)+(1:Nat)+(1:Nat)+(1:Nat) then cellZ (cuL M z).sv.cells ((0:Nat)+(M.f (↑z:Int).toNat).2.toNat*(1:Nat))+(M.f (↑z:Int).toNat).3 else (cuL M z).8)+(M.f (↑z:Int).toNat).3)∧rI ((↑z:Int)+(1:Int))∧(∀ (i:Nat),i<M.1→True∧True∧True∧True)∧(SV.lst (3:Nat) M.n fun i=>(M.f i).sv)=(msOf M.n fun i=>(M.f i).sv).sv∧((1:Int)≤(↑z:Int)+(1:Int)∧(↑z:Int)+(1:Int)≤(↑M.1:Int)∧M.1≤(1000:Nat))∧(jnM (msOf M.n fun i=>(M.f i).sv) ((↑z:Int)+(1:Int)).toNat→rI ((↑z:Int)+(1:Int))∧∃ (z_1:Nat),(z_1≤M.1∧(lyL M z_1).length≤(lyL M M.n).length)∧M.1 - z_1<M.1 - z∧(lyL M z).length=(lyL M z_1).length∧rE (SV.denL [M.sv])∧((∀ (i:Nat),i<M.1→True∧True∧True∧True)∧True)∧(↑(lyL M z).length:Int)=(↑(lyL M z_1).length:Int)∧rE (0:Nat)∧rE (0:Nat)∧M.1=M.1∧(∀ (i:Nat),i<M.1→rE ((M.f i).sv.den)∧True∧True∧True∧True)∧rE (↑M.1:Int)∧(↑z:Int)+(1:Int)=(↑z_1:Int)∧(if (0:Nat)+(M.f (↑z:Int).toNat).2.toNat*(1:Nat)=(0:Nat) then cellZ (cuL M z).sv.cells ((0:Nat)+(M.f (↑z:Int).toNat).2.toNat*(1:Nat))+(M.f (↑z:Int).toNat).3 else (cuL M z).1)=(cuL M z_1).1∧(if (0:Nat)+(M.f (↑z:Int).toNat).2.toNat*(1:Nat)=(0:Nat)+(1:Nat) then cellZ (cuL M z).sv.cells ((0:Nat)+(M.f (↑z:Int).toNat).2.toNat*(1:Nat))+(M.f (↑z:Int).toNat).3 else (cuL M z).2)=(cuL M z_1).2∧(if (0:Nat)+(M.f (↑z:Int).toNat).2.toNat*(1:Nat)=(0:Nat)+(1:Nat)+(1:Nat) then cellZ (cuL M z).sv.cells ((0:Nat)+(M.f (↑z:Int).toNat).2.toNat*(1:Nat))+(M.f (↑z:Int).toNat).3 else (cuL M z).3)=(cuL M z_1).3∧(if (0:Nat)+(M.f (↑z:Int).toNat).2.toNat*(1:Nat)=(0:Nat)+(1:Nat)+(1:Nat)+(1:Nat) then cellZ (cuL M z).sv.cells ((0:Nat)+(M.f (↑z:Int).toNat).2.toNat*(1:Nat))+(M.f (↑z:Int).toNat).3 else (cuL M z).4)=(cuL M z_1).4∧(if (0:Nat)+(M.f (↑z:Int).toNat).2.toNat*(1:Nat)=(0:Nat)+(1:Nat)+(1:Nat)+(1:Nat)+(1:Nat) then cellZ (cuL M z).sv.cells ((0:Nat)+(M.f (↑z:Int).toNat).2.toNat*(1:Nat))+(M.f (↑z:Int).toNat).3 else (cuL M z).5)=(cuL M z_1).5∧(if (0:Nat)+(M.f (↑z:Int).toNat).2.toNat*(1:Nat)=(0:Nat)+(1:Nat)+(1:Nat)+(1:Nat)+(1:Nat)+(1:Nat) then cellZ (cuL M z).sv.cells ((0:Nat)+(M.f (↑z:Int).toNat).2.toNat*(1:Nat))+(M.f (↑z:Int).toNat).3 else (cuL M z).6)=(cuL M z_1).6∧(if (0:Nat)+(M.f (↑z:Int).toNat).2.toNat*(1:Nat)=(0:Nat)+(1:Nat)+(1:Nat)+(1:Nat)+(1:Nat)+(1:Nat)+(1:Nat) then cellZ (cuL M z).sv.cells ((0:Nat)+(M.f (↑z:Int).toNat).2.toNat*(1:Nat))+(M.f (↑z:Int).toNat).3 else (cuL M z).7)=(cuL M z_1).7∧(if (0:Nat)+(M.f (↑z:Int).toNat).2.toNat*(1:Nat)=(0:Nat)+(1:Nat)+(1:Nat)+(1:Nat)+(1:Nat)+(1:Nat)+(1:Nat)+(1:Nat) then cellZ (cuL M z).sv.cells ((0:Nat)+(M.f (↑z:Int).toNat).2.toNat*(1:Nat))+(M.f (↑z:Int).toNat).3 else (cuL M z).8)+(M.f (↑z:Int).toNat).3=(cuL M z_1).8∧True)∧(¬jnM (msOf M.n fun i=>(M.f i).sv) ((↑z:Int)+(1:Int)).toNat→(0:Nat)<(1:Nat)∧(lyL M z).length<(lyL M M.n).length∧rE (↑(lyL M z).length:Int)∧(if (0:Nat)+(M.f (↑z:Int).toNat).2.toNat*(1:Nat)=(0:Nat) then cellZ (cuL M z).sv.cells ((0:Nat)+(M.f (↑z:Int).toNat).2.toNat*(1:Nat))+(M.f (↑z:Int).toNat).3 else (cuL M z).1)=(lyF M (lyL M z).length).1∧(if (0:Nat)+(M.f (↑z:Int).toNat).2.toNat*(1:Nat)=(0:Nat)+(1:Nat) then cellZ (cuL M z).sv.cells ((0:Nat)+(M.f (↑z:Int).toNat).2.toNat*(1:Nat))+(M.f (↑z:Int).toNat).3 else (cuL M z).2)=(lyF M (lyL M z).length).2∧(if (0:Nat)+(M.f (↑z:Int).toNat).2.toNat*(1:Nat)=(0:Nat)+(1:Nat)+(1:Nat) then cellZ (cuL M z).sv.cells ((0:Nat)+(M.f (↑z:Int).toNat).2.toNat*(1:Nat))+(M.f (↑z:Int).toNat).3 else (cuL M z).3)=(lyF M (lyL M z).length).3∧(if (0:Nat)+(M.f (↑z:Int).toNat).2.toNat*(1:Nat)=(0:Nat)+(1:Nat)+(1:Nat)+(1:Nat) then cellZ (cuL M z).sv.cells ((0:Nat)+(M.f (↑z:Int).toNat).2.toNat*(1:Nat))+(M.f (↑z:Int).toNat).3 else (cuL M z).4)=(lyF M (lyL M z).length).4∧(if (0:Nat)+(M.f (↑z:Int).toNat).2.toNat*(1:Nat)=(0:Nat)+(1:Nat)+(1:Nat)+(1:Nat)+(1:Nat) then cellZ (cuL M z).sv.cells ((0:Nat)+(M.f (↑z:Int).toNat).2.toNat*(1:Nat))+(M.f (↑z:Int).toNat).3 else (cuL M z).5)=(lyF M (lyL M z).length).5∧(if (0:Nat)+(M.f (↑z:Int).toNat).2.toNat*(1:Nat)=(0:Nat)+(1:Nat)+(1:Nat)+(1:Nat)+(1:Nat)+(1:Nat) then cellZ (cuL M z).sv.cells ((0:Nat)+(M.f (↑z:Int).toNat).2.toNat*(1:Nat))+(M.f (↑z:Int).toNat).3 else (cuL M z).6)=(lyF M (lyL M z).length).6∧(if (0:Nat)+(M.f (↑z:Int).toNat).2.toNat*(1:Nat)=(0:Nat)+(1:Nat)+(1:Nat)+(1:Nat)+(1:Nat)+(1:Nat)+(1:Nat) then cellZ (cuL M z).sv.cells ((0:Nat)+(M.f (↑z:Int).toNat).2.toNat*(1:Nat))+(M.f (↑z:Int).toNat).3 else (cuL M z).7)=(lyF M (lyL M z).length).7∧(if (0:Nat)+(M.f (↑z:Int).toNat).2.toNat*(1:Nat)=(0:Nat)+(1:Nat)+(1:Nat)+(1:Nat)+(1:Nat)+(1:Nat)+(1:Nat)+(1:Nat) then cellZ (cuL M z).sv.cells ((0:Nat)+(M.f (↑z:Int).toNat).2.toNat*(1:Nat))+(M.f (↑z:Int).toNat).3 else (cuL M z).8)+(M.f (↑z:Int).toNat).3=(lyF M (lyL M z).length).8∧(rI ((↑(lyL M z).length:Int)+(1:Int))∧(0:Nat)<(1:Nat)∧(0:Nat)<(1:Nat)∧rI ((↑z:Int)+(1:Int))∧∃ (z_1:Nat),(z_1≤M.1∧(lyL M z_1).length≤(lyL M M.n).length)∧M.1 - z_1<M.1 - z∧(lyL M z).length.succ=(lyL M z_1).length∧rE (SV.denL [M.sv])∧((∀ (i:Nat),i<M.1→True∧True∧True∧True)∧True)∧(↑(lyL M z).length:Int)+(1:Int)=(↑(lyL M z_1).length:Int)∧rE (0:Nat)∧rE (0:Nat)∧M.1=M.1∧(∀ (i:Nat),i<M.1→rE ((M.f i).sv.den)∧True∧True∧True∧True)∧rE (↑M.1:Int)∧(↑z:Int)+(1:Int)=(↑z_1:Int)∧(0:Int)=(cuL M z_1).1∧(0:Int)=(cuL M z_1).2∧(0:Int)=(cuL M z_1).3∧(0:Int)=(cuL M z_1).4∧(0:Int)=(cuL M z_1).5∧(0:Int)=(cuL M z_1).6∧(if (0:Nat)+(M.f (↑z:Int).toNat).2.toNat*(1:Nat)=(0:Nat)+(1:Nat)+(1:Nat)+(1:Nat)+(1:Nat)+(1:Nat)+(1:Nat)+(1:Nat) then cellZ (cuL M z).sv.cells ((0:Nat)+(M.f (↑z:Int).toNat).2.toNat*(1:Nat))+(M.f (↑z:Int).toNat).3 else (cuL M z).8)+(M.f (↑z:Int).toNat).3=(cuL M z_1).7∧(if (0:Nat)+(M.f (↑z:Int).toNat).2.toNat*(1:Nat)=(0:Nat)+(1:Nat)+(1:Nat)+(1:Nat)+(1:Nat)+(1:Nat)+(1:Nat)+(1:Nat) then cellZ (cuL M z).sv.cells ((0:Nat)+(M.f (↑z:Int).toNat).2.toNat*(1:Nat))+(M.f (↑z:Int).toNat).3 else (cuL M z).8)+(M.f (↑z:Int).toNat).3=(cuL M z_1).8∧True)∧True)))∧(¬(↑z:Int)<(↑M.1:Int)→(lyL M z).length=(lyL M M.n).length)):=by kernel_rfl
theorem lsG_vc (M:Ytfiaadlgfjokjaa.Ms):lsG M=((0:Nat)<(1:Nat)∧M.1=M.1∧(∀ (i:Nat),i<M.1→(M.f i).sv.den=(M.f i).sv.den∧True∧True∧True∧True)∧True):=by kernel_rfl
theorem cmG_vc (a:Tw) (b:Tw):cmG a b=((0:Nat)<(1:Nat)∧(0:Nat)<(1:Nat)∧(0:Nat)<(1:Nat)∧(0:Nat)<(1:Nat)∧((-9223372036854775808:Int)≤min a.2 b.2 - max a.1 b.1∧min a.2 b.2 - max a.1 b.1≤(9223372036854775807:Int))∧max (0:Int) (min a.2 b.2 - max a.1 b.1)=cmT a b∧True):=by kernel_rfl
theorem poG_vc (M:Ytfiaadlgfjokjaa.Ms) (s:Tw):poG M s=((∀ (i:Nat),i<M.1→True∧True∧True∧True)∧(SV.lst (3:Nat) M.n fun i=>(M.f i).sv)=(msOf M.n fun i=>(M.f i).sv).sv∧(∀ (i:Nat),i<M.1→True∧True∧True∧True)∧(SV.lst (3:Nat) (msOf M.n fun i=>(M.f i).sv).n fun i=>((msOf M.n fun i=>(M.f i).sv).f i).sv)=(msOf (msOf M.n fun i=>(M.f i).sv).n fun i=>((msOf M.n fun i=>(M.f i).sv).f i).sv).sv∧lyP (msOf (msOf M.n fun i=>(M.f i).sv).n fun i=>((msOf M.n fun i=>(M.f i).sv).f i).sv)∧(((∀ (i:Nat),i<M.1→True∧True∧True∧True)∧True)∧∃ (z:Nat),(z=(0:Nat)∧(0:Nat)≤(lyL M M.n).length)∧rE (0:Nat)∧rE (0:Nat)∧rE (0:Nat)∧rE (0:Nat)∧rE (Fn.func (68:FuncId))∧SV.denL [(msOf M.n fun i=>(M.f i).sv).sv]=SV.denL [SV.lst (3:Nat) (msOf M.n fun i=>(M.f i).sv).n fun i=>((msOf M.n fun i=>(M.f i).sv).f i).sv]∧((∀ (i:Nat),i<M.1→True∧True∧True∧True)∧True)∧s.1=s.1∧s.2=s.2∧rE (0:Nat)∧(0:Nat)=(poM M s z).length∧(poM M s z).length=(0:Nat)∧True)∧(∀ (j:Nat),j<(lyL (msOf (msOf M.n fun i=>(M.f i).sv).n fun i=>((msOf M.n fun i=>(M.f i).sv).f i).sv) (msOf M.n fun i=>(M.f i).sv).n).length→∀ (z_1:Nat),z_1=j∧j≤(lyL M M.n).length→(0:Nat)<(1:Nat)∧(0:Nat)<(1:Nat)∧rI (min s.hi (lyF (msOf (msOf M.n fun i=>(M.f i).sv).n fun i=>((msOf M.n fun i=>(M.f i).sv).f i).sv) j).to - max s.lo (lyF (msOf (msOf M.n fun i=>(M.f i).sv).n fun i=>((msOf M.n fun i=>(M.f i).sv).f i).sv) j).fr)∧((0:Int)<cmT (Tw.mk s.lo s.hi) (Tw.mk (lyF (msOf (msOf M.n fun i=>(M.f i).sv).n fun i=>((msOf M.n fun i=>(M.f i).sv).f i).sv) j).fr (lyF (msOf (msOf M.n fun i=>(M.f i).sv).n fun i=>((msOf M.n fun i=>(M.f i).sv).f i).sv) j).to)→(0:Nat)<(1:Nat)∧(0:Nat)<(1:Nat)∧True∧(∀ (i:Nat),i<(1:Nat)→rE true)∧rE (0:Nat)∧rE ((poM M s z_1).length)∧(∀ (i:Nat),rE true)∧((poM M s z_1).length+(1:Nat))*(80:Nat)≤(140737488355328:Nat)∧(poM M s z_1).length+(1:Nat)≤(4611686018427387904:Nat)∧∃ (z_2:Nat),(z_2=j.succ∧j.succ≤(lyL M M.n).length)∧s.1=s.1∧s.2=s.2∧rE (0:Nat)∧(poM M s z_1).length+(1:Nat)=(poM M s z_2).length∧(poM M s z_2).length=(poM M s z_1).length+(1:Nat)∧(∀ (i_3:Nat),i_3<(poM M s z_2).length→rE (10:Nat)∧(if i_3<(poM M s z_1).length then ((poM M s z_1).getD i_3 zP).l.1 else (lyF (msOf (msOf M.n fun i=>(M.f i).sv).n fun i=>((msOf M.n fun i=>(M.f i).sv).f i).sv) j).1)=((poM M s z_2).getD i_3 zP).l.1∧(if i_3<(poM M s z_1).length then ((poM M s z_1).getD i_3 zP).l.2 else (lyF (msOf (msOf M.n fun i=>(M.f i).sv).n fun i=>((msOf M.n fun i=>(M.f i).sv).f i).sv) j).2)=((poM M s z_2).getD i_3 zP).l.2∧(if i_3<(poM M s z_1).length then ((poM M s z_1).getD i_3 zP).l.3 else (lyF (msOf (msOf M.n fun i=>(M.f i).sv).n fun i=>((msOf M.n fun i=>(M.f i).sv).f i).sv) j).3)=((poM M s z_2).getD i_3 zP).l.3∧(if i_3<(poM M s z_1).length then ((poM M s z_1).getD i_3 zP).l.4 else (lyF (msOf (msOf M.n fun i=>(M.f i).sv).n fun i=>((msOf M.n fun i=>(M.f i).sv).f i).sv) j).4)=((poM M s z_2).getD i_3 zP).l.4∧(if i_3<(poM M s z_1).length then ((poM M s z_1).getD i_3 zP).l.5 else (lyF (msOf (msOf M.n fun i=>(M.f i).sv).n fun i=>((msOf M.n fun i=>(M.f i).sv).f i).sv) j).5)=((poM M s z_2).getD i_3 zP).l.5∧(if i_3<(poM M s z_1).length then ((poM M s z_1).getD i_3 zP).l.6 else (lyF (msOf (msOf M.n fun i=>(M.f i).sv).n fun i=>((msOf M.n fun i=>(M.f i).sv).f i).sv) j).6)=((poM M s z_2).getD i_3 zP).l.6∧(if i_3<(poM M s z_1).length then ((poM M s z_1).getD i_3 zP).l.7 else (lyF (msOf (msOf M.n fun i=>(M.f i).sv).n fun i=>((msOf M.n fun i=>(M.f i).sv).f i).sv) j).7)=((poM M s z_2).getD i_3 zP).l.7∧(if i_3<(poM M s z_1).length then ((poM M s z_1).getD i_3 zP).l.8 else (lyF (msOf (msOf M.n fun i=>(M.f i).sv).n fun i=>((msOf M.n fun i=>(M.f i).sv).f i).sv) j).8)=((poM M s z_2).getD i_3 zP).l.8∧(if i_3<(poM M s z_1).length then ((poM M s z_1).getD i_3 zP).2 else (↑j:Int))=((poM M s z_2).getD i_3 zP).2∧(if i_3<(poM M s z_1).length then ((poM M s z_1).getD i_3 zP).3 else cmT (Tw.mk s.lo s.hi) (Tw.mk (lyF (msOf (msOf M.n fun i=>(M.f i).sv).n fun i=>((msOf M.n fun i=>(M.f i).sv).f i).sv) j).fr (lyF (msOf (msOf M.n fun i=>(M.f i).sv).n fun i=>((msOf M.n fun i=>(M.f i).sv).f i).sv) j).to))=((poM M s z_2).getD i_3 zP).3∧True)∧True)∧(¬(0:Int)<cmT (Tw.mk s.lo s.hi) (Tw.mk (lyF (msOf (msOf M.n fun i=>(M.f i).sv).n fun i=>((msOf M.n fun i=>(M.f i).sv).f i).sv) j).fr (lyF (msOf (msOf M.n fun i=>(M.f i).sv).n fun i=>((msOf M.n fun i=>(M.f i).sv).f i).sv) j).to)→∃ (z_2:Nat),(z_2=j.succ∧j.succ≤(lyL M M.n).length)∧s.1=s.1∧s.2=s.2∧rE (0:Nat)∧(poM M s z_1).length=(poM M s z_2).length∧(poM M s z_2).length=(poM M s z_1).length∧(∀ (i_3:Nat),i_3<(poM M s z_2).length→rE (10:Nat)∧((poM M s z_1).getD i_3 zP).l.1=((poM M s z_2).getD i_3 zP).l.1∧((poM M s z_1).getD i_3 zP).l.2=((poM M s z_2).getD i_3 zP).l.2∧((poM M s z_1).getD i_3 zP).l.3=((poM M s z_2).getD i_3 zP).l.3∧((poM M s z_1).getD i_3 zP).l.4=((poM M s z_2).getD i_3 zP).l.4∧((poM M s z_1).getD i_3 zP).l.5=((poM M s z_2).getD i_3 zP).l.5∧((poM M s z_1).getD i_3 zP).l.6=((poM M s z_2).getD i_3 zP).l.6∧((poM M s z_1).getD i_3 zP).l.7=((poM M s z_2).getD i_3 zP).l.7∧((poM M s z_1).getD i_3 zP).l.8=((poM M s z_2).getD i_3 zP).l.8∧((poM M s z_1).getD i_3 zP).2=((poM M s z_2).getD i_3 zP).2∧((poM M s z_1).getD i_3 zP).3=((poM M s z_2).getD i_3 zP).3∧True)∧True))∧∀ (z:Nat),z=(lyL (msOf (msOf M.n fun i=>(M.f i).sv).n fun i=>((msOf M.n fun i=>(M.f i).sv).f i).sv) (msOf M.n fun i=>(M.f i).sv).n).length∧(lyL (msOf (msOf M.n fun i=>(M.f i).sv).n fun i=>((msOf M.n fun i=>(M.f i).sv).f i).sv) (msOf M.n fun i=>(M.f i).sv).n).length≤(lyL M M.n).length→(0:Nat)<(1:Nat)∧(poM M s z).length=(poM M s (lyL M M.n).length).length∧(0:Nat)+(poM M s (lyL M M.n).length).length≤(poM M s z).length∧(∀ (i_1:Nat),i_1<(poM M s (lyL M M.n).length).length→rE (10:Nat)∧rE (10:Nat)∧((poM M s z).getD (i_1+(0:Nat)) zP).l.1=((poM M s (lyL M M.n).length).getD i_1 zP).l.1∧((poM M s z).getD (i_1+(0:Nat)) zP).l.2=((poM M s (lyL M M.n).length).getD i_1 zP).l.2∧((poM M s z).getD (i_1+(0:Nat)) zP).l.3=((poM M s (lyL M M.n).length).getD i_1 zP).l.3∧((poM M s z).getD (i_1+(0:Nat)) zP).l.4=((poM M s (lyL M M.n).length).getD i_1 zP).l.4∧((poM M s z).getD (i_1+(0:Nat)) zP).l.5=((poM M s (lyL M M.n).length).getD i_1 zP).l.5∧((poM M s z).getD (i_1+(0:Nat)) zP).l.6=((poM M s (lyL M M.n).length).getD i_1 zP).l.6∧((poM M s z).getD (i_1+(0:Nat)) zP).l.7=((poM M s (lyL M M.n).length).getD i_1 zP).l.7∧((poM M s z).getD (i_1+(0:Nat)) zP).l.8=((poM M s (lyL M M.n).length).getD i_1 zP).l.8∧((poM M s z).getD (i_1+(0:Nat)) zP).2=((poM M s (lyL M M.n).length).getD i_1 zP).2∧((poM M s z).getD (i_1+(0:Nat)) zP).3=((poM M s (lyL M M.n).length).getD i_1 zP).3∧True)∧True):=by kernel_rfl
theorem paG_vc (n:Nat) (f:Nat→Pn):paG n f=((∃ (z:Nat),z≤n∧rE (0:Nat)∧(0:Nat)=z∧n=n∧(∀ (i:Nat),i<n→rE ((f i).sv.den)∧True∧True∧True∧True∧True∧True∧True∧True∧True∧True∧True)∧rE (↑n:Int)∧(0:Int)=(↑z:Int)∧z=(0:Nat)∧True)∧∀ (z:Nat),z≤n→((↑z:Int)<(↑n:Int)→(0:Int)≤(↑z:Int)∧(↑z:Int)<(↑n:Int)∧(0:Nat)<(1:Nat)∧(0:Nat)<(1:Nat)∧True∧(∀ (i:Nat),i<(1:Nat)→rE true)∧rE (0:Nat)∧z=z∧(∀ (i:Nat),rE true)∧(z+(1:Nat))*(16:Nat)≤(140737488355328:Nat)∧z+(1:Nat)≤(4611686018427387904:Nat)∧rI ((↑z:Int)+(1:Int))∧∃ (z_1:Nat),z_1≤n∧n - z_1<n - z∧rE (0:Nat)∧z+(1:Nat)=z_1∧n=n∧(∀ (i:Nat),i<n→rE ((f i).sv.den)∧True∧True∧True∧True∧True∧True∧True∧True∧True∧True∧True)∧rE (↑n:Int)∧(↑z:Int)+(1:Int)=(↑z_1:Int)∧z_1=z+(1:Nat)∧(∀ (i:Nat),i<z_1→rE (2:Nat)∧(if i<z then (f i).2 else (f (↑z:Int).toNat).2)=(f i).2∧(if i<z then (f i).3 else (f (↑z:Int).toNat).3)=(f i).3∧True)∧True)∧(¬(↑z:Int)<(↑n:Int)→z=n∧(0:Nat)+n≤z∧(∀ (i:Nat),i<n→rE (2:Nat)∧rE (2:Nat)∧(f (i+(0:Nat))).2=(f i).2∧(f (i+(0:Nat))).3=(f i).3∧True)∧True)):=by kernel_rfl
end Go.Proofs.Ytfiaadlgfjokjaa

set_option maxRecDepth 100000
namespace Go.Proofs.Ytfiaadlgfjokjaa
open Go Go.Lg
attribute [local irreducible] funS bodyH
theorem ck_0 {Y:Yd} (h:ckY Y=0):okCl Y.c∧okMs Y.c.n Y.m∧okSh Y.m Y.m.n:=by
 unfold ckY at h
 split at h
 ·rename_i h1
  split at h
  ·rename_i h2; exact ⟨h1.1,h1.2,h2⟩
  ·omega
 ·omega
theorem dn_y {M:Ms} {k:Nat} (h:(M.f k).co=-1):dn M (k+1)=dn M k+1:=by simp only [dn,if_pos h]
theorem dn_n {M:Ms} {k:Nat} (h:¬ (M.f k).co=-1):dn M (k+1)=dn M k:=by simp only [dn,if_neg h]
theorem dn_le (M:Ms):∀ k,dn M k≤k
 | 0=>by simp [dn]
 | k+1=>by
  have:=dn_le M k
  by_cases h:(M.f k).co=-1
  ·rw [dn_y h]; omega
  ·rw [dn_n h]; omega
theorem ds_s (M:Ms) (a:Int) (k:Nat):ds M a (k+1)=ds M a k+dsI M a k:=rfl
theorem ds_n {M:Ms} {a:Int} {k:Nat} (h:¬ (M.f k).co=-1):ds M a (k+1)=ds M a k:=by rw [ds_s,dsI,if_neg h]; omega
theorem ds_y {M:Ms} {a:Int} {k:Nat} (h:(M.f k).co=-1) (h2:(dn M k:Int)<a):ds M a (k+1)=ds M a k+(M.f k).tn:=by rw [ds_s,dsI,if_pos h,if_pos h2]
theorem ds_z {M:Ms} {a:Int} {k:Nat} (h:(M.f k).co=-1) (h2:¬ (dn M k:Int)<a):ds M a (k+1)=ds M a k:=by rw [ds_s,dsI,if_pos h,if_neg h2]; omega
theorem ds_bd {M:Ms} {c:Int} (h:okMs c M) {a:Int} {k:Nat} (hk:k≤M.n):-33554432≤ds M a k∧ds M a k≤33554432:=by
 have:=sum_bd (g:=dsI M a) (B:=1048576) (m:=k) fun j hj=>by
  have m:=h.h j (by omega)
  have t0:=m.t0
  have t1:=m.t1
  unfold dsI
  split
  ·split <;> omega
  ·omega
 have hn:=h.n
 unfold ds
 omega
theorem drE_e {Y:Yd} {a b:Int} (h:ckY Y≠0):drE Y a b=ckY Y:=if_neg h
theorem drE_2 {Y:Yd} {a b:Int} (h:ckY Y=0) (h2:a<0∨b<a∨(dn Y.m Y.m.n:Int)≤b):drE Y a b=2:=by rw [drE,if_pos h,if_pos h2]
theorem drE_0 {Y:Yd} {a b:Int} (h:ckY Y=0) (h2:¬ (a<0∨b<a∨(dn Y.m Y.m.n:Int)≤b)):drE Y a b=0:=by rw [drE,if_pos h,if_neg h2]
theorem drS_n {Y:Yd} {a b:Int} (h:drE Y a b≠0):drS Y a b=⟨0,0⟩:=if_neg h
theorem drS_y {Y:Yd} {a b:Int} (h:drE Y a b=0):drS Y a b=⟨ds Y.m a Y.m.n,ds Y.m (b+1) Y.m.n⟩:=if_pos h
theorem dr_true (Y:Yd) (a b:Int):drG Y a b:=by
 rw [drG_vc]
 have e0:Yd.mk Y.c Y.m=Y:=rfl
 simp only [drG0,drG1,rI,rE,tt3,tt4,tt5,tt13,tt14,rI,rE,tA,tB,tC,tD,tt3,tt4,tt5,tt13,tt14,and_true,true_and,Nat.zero_lt_one,and_self,implies_true,Int.toNat_natCast,Nat.zero_add,Nat.add_zero,Nat.one_mul,Nat.mul_one,Classical.not_not,iff_self,Bool.false_eq_true,imp_false,and_imp,true_implies,forall_const,ms_fold,cl_fold,mv_fold,cv_fold,e0]
 refine ⟨fun h=>?_,fun h0=>?_⟩
 ·have e:=drE_e (a:=a) (b:=b) h
  rw [drS_n (by rw [e]; exact h),e]; exact ⟨rfl,rfl,rfl⟩
 ·obtain ⟨hc,hM,hs⟩:=ck_0 h0
  have hn:=hM.n
  refine ⟨⟨0,⟨by omega,h0⟩,rfl,rfl,rfl,rfl⟩,fun z hz _=>⟨fun hl=>?_,fun hl=>?_⟩⟩
  ·have m:=hM.h z (by omega)
   have t0:=m.t0
   have t1:=m.t1
   have b1:=ds_bd hM (a:=a) (k:=z) hz
   have b2:=ds_bd hM (a:=b+1) (k:=z) hz
   have d:=dn_le Y.m z
   refine ⟨by omega,hl,fun hd=>⟨by omega,z+1,⟨by omega,h0⟩,by omega,by rw [dn_n hd],by omega,(ds_n hd).symm,(ds_n hd).symm⟩,fun hd=>⟨fun q1=>⟨by omega,fun q2=>?_,fun q2=>?_⟩,fun q1=>⟨fun q2=>?_,fun q2=>?_⟩⟩⟩
   ·exact ⟨by omega,by omega,by omega,z+1,⟨by omega,h0⟩,by omega,by rw [dn_y hd]; rfl,by omega,(ds_y hd q1).symm,(ds_y hd (by omega)).symm⟩
   ·exact ⟨by omega,by omega,z+1,⟨by omega,h0⟩,by omega,by rw [dn_y hd]; rfl,by omega,(ds_y hd q1).symm,(ds_z hd (by omega)).symm⟩
   ·exact ⟨by omega,by omega,by omega,z+1,⟨by omega,h0⟩,by omega,by rw [dn_y hd]; rfl,by omega,(ds_z hd q1).symm,(ds_y hd (by omega)).symm⟩
   ·exact ⟨by omega,by omega,z+1,⟨by omega,h0⟩,by omega,by rw [dn_y hd]; rfl,by omega,(ds_z hd q1).symm,(ds_z hd (by omega)).symm⟩
  ·have hz:z=Y.m.n:=by omega
   subst hz
   have bad:(a<0∨b<a∨(dn Y.m Y.m.n:Int)≤b)→0=(drS Y a b).lo∧0=(drS Y a b).hi∧2=drE Y a b:=fun h=>by
    have e:=drE_2 h0 h
    rw [drS_n (by omega),e]; exact ⟨rfl,rfl,rfl⟩
   refine ⟨fun h=>bad (.inl h),fun q1=>⟨fun h=>bad (.inr (.inl h)),fun q2=>⟨fun h=>bad (.inr (.inr h)),fun q3=>?_⟩⟩⟩
   have e:=drE_0 h0 (a:=a) (b:=b) (by omega)
   rw [drS_y e,e]; exact ⟨rfl,rfl,rfl⟩
theorem dr_ok:drC.Ok Try.prog:=by
 refine ⟨by kernel_rfl,fun x k hk=>?_⟩
 simp only [drC] at hk
 split at hk
 ·rename_i n f m g a b
  obtain ⟨h1,h2,hk⟩:=hk
  have hh:=dr_true ⟨clOf n f,msOf m g⟩ a b
  unfold drG at hh
  simp only [Yd.sv] at hh
  rw [← h1,← h2] at hh
  have hh:funH Try.prog (ctrs [ckC]) noX (ictrs []) _ noL 30 [.agg [.lst 8 n f,.lst 3 m g],i6 a,i6 b] _:=hh
  exact ⟨_,plainD (one_cs ck_ok) nilS_x nilS_ic hh (by simp [plainS,plainS.plainL,Tw.sv]),hk⟩
 ·exact hk.elim
theorem uo_s (M:Ms) (k:Nat):sumJ (uoI M) (k+1)=sumJ (uoI M) k+uoI M k:=rfl
theorem ua_s (M:Ms) (k:Nat):sumJ (uaI M) (k+1)=sumJ (uaI M) k+uaI M k:=rfl
theorem un_bd {M:Ms} {c:Int} (h:okMs c M) {k:Nat} (hk:k≤M.n):(0≤sumJ (uoI M) k∧sumJ (uoI M) k≤33554432)∧0≤sumJ (uaI M) k∧sumJ (uaI M) k≤33554432:=by
 have key:∀ j,j≤M.n→(0≤sumJ (uoI M) j∧sumJ (uoI M) j≤j*1048576)∧0≤sumJ (uaI M) j∧sumJ (uaI M) j≤j*1048576:=by
  intro j
  induction j with
  | zero=>intro _; simp [sumJ]
  | succ j ih =>
   intro hj
   have ih:=ih (by omega)
   have m:=h.h j (by omega)
   have t0:=m.t0
   have t1:=m.t1
   rw [uo_s,ua_s]
   unfold uoI uaI at *
   split <;> omega
 have:=key k hk
 have:=h.n
 omega
theorem un_true {M:Ms} {c:Int} (h:okMs c M):unG M:=by
 rw [unG_vc]
 simp only [rI,rE,tt3,tt4,tt5,tt13,tt14,rI,rE,tA,tB,tC,tD,tt3,tt4,tt5,tt13,tt14,and_true,true_and,Nat.zero_lt_one,and_self,implies_true,Int.toNat_natCast,Nat.zero_add,Nat.add_zero,Nat.one_mul,Nat.mul_one,Classical.not_not,iff_self,Bool.false_eq_true,imp_false,and_imp,true_implies,forall_const,ms_fold,cl_fold,mv_fold,cv_fold]
 have hn:=h.n
 refine ⟨⟨0,by omega,rfl,rfl,rfl⟩,fun z hz=>⟨fun hl=>?_,fun hl=>?_⟩⟩
 ·have m:=h.h z (by omega)
  have t0:=m.t0
  have t1:=m.t1
  have b:=un_bd h hz
  refine ⟨by omega,hl,fun hd=>⟨by omega,by omega,z+1,by omega,by omega,by omega,by rw [uo_s,uoI,if_pos hd],by rw [ua_s,uaI,if_pos hd]; omega⟩,fun hd=>⟨by omega,by omega,z+1,by omega,by omega,by omega,by rw [uo_s,uoI,if_neg hd]; omega,by rw [ua_s,uaI,if_neg hd]⟩⟩
 ·have:z=M.n:=by omega
  subst this; exact ⟨rfl,rfl⟩
theorem un_ok:unC.Ok Try.prog:=by
 refine ⟨by kernel_rfl,fun x k hk=>?_⟩
 simp only [unC] at hk
 split at hk
 ·rename_i n f
  obtain ⟨hf,⟨c,hM⟩,hk⟩:=hk
  have hh:=un_true hM
  unfold unG at hh
  rw [← hf] at hh
  exact ⟨_,plainD nilS_cs nilS_x nilS_ic hh (by simp [plainS,plainS.plainL,Tw.sv]),hk⟩
 ·exact hk.elim
theorem jn_true {M:Ms} {j:Int} (h:1≤j∧j≤M.n∧M.n≤1000):jnG M j:=by
 rw [jnG_vc]
 simp only [rI,rE,tt3,tt4,tt5,tt13,tt14,rI,rE,tA,tB,tC,tD,tt3,tt4,tt5,tt13,tt14,and_true,true_and,Nat.zero_lt_one,and_self,implies_true,Int.toNat_natCast,Nat.zero_add,Nat.add_zero,Nat.one_mul,Nat.mul_one,Classical.not_not,iff_self,Bool.false_eq_true,imp_false,and_imp,true_implies,forall_const,ms_fold,cl_fold,mv_fold,cv_fold,false_iff]
 have e:(j - 1).toNat=j.toNat - 1:=by omega
 rw [e]
 refine ⟨fun hl=>⟨by omega,hl,fun hd=>⟨by omega,by omega,by omega,by omega,by omega,⟨fun h2=>⟨by omega,hd,h2⟩,fun h2=>h2.2.2⟩⟩,fun hd h2=>h2.2.1 hd⟩,fun hl h2=>hl (by have:=h2.1; omega)⟩
theorem jn_ok:jnC.Ok Try.prog:=by
 refine ⟨by kernel_rfl,fun x k hk=>?_⟩
 simp only [jnC] at hk
 split at hk
 ·rename_i n f j
  obtain ⟨hf,h,hk⟩:=hk
  have hh:=jn_true (M:=msOf n f) (j:=j) h
  unfold jnG at hh
  rw [← hf] at hh
  exact ⟨_,plainD nilS_cs nilS_x nilS_ic hh trivial,hk⟩
 ·exact hk.elim
theorem cu_d {M:Ms} {k:Nat} (h:(M.f k).co=-1):cuL M (k+1)=cuL M k∧lyL M (k+1)=lyL M k:=by simp only [cuL,lyL,if_pos h,and_self]
theorem cu_j {M:Ms} {k:Nat} (h:¬ (M.f k).co=-1) (j:jnM M (k+1)):cuL M (k+1)=(cuL M k).add (M.f k)∧lyL M (k+1)=lyL M k:=by simp only [cuL,lyL,if_neg h,if_pos j,and_self]
theorem cu_e {M:Ms} {k:Nat} (h:¬ (M.f k).co=-1) (j:¬ jnM M (k+1)):cuL M (k+1)=nwL ((cuL M k).add (M.f k)).to∧lyL M (k+1)=lyL M k ++ [(cuL M k).add (M.f k)]:=by simp only [cuL,lyL,if_neg h,if_neg j,and_self]
structure bdLa (B:Int) (l:La):Prop where
 c0:0≤l.c0∧l.c0≤l.to - l.fr
 c1:0≤l.c1∧l.c1≤l.to - l.fr
 c2:0≤l.c2∧l.c2≤l.to - l.fr
 c3:0≤l.c3∧l.c3≤l.to - l.fr
 c4:0≤l.c4∧l.c4≤l.to - l.fr
 c5:0≤l.c5∧l.c5≤l.to - l.fr
 f:0≤l.fr∧l.fr≤l.to
 t:l.to≤B
theorem bd_mono {B B':Int} {l:La} (h:bdLa B l) (hb:B≤B'):bdLa B' l:=⟨h.c0,h.c1,h.c2,h.c3,h.c4,h.c5,h.f,Int.le_trans h.t hb⟩
theorem bd_nw {B t:Int} (h:0≤t) (h2:t≤B):bdLa B (nwL t):=⟨by simp [nwL],by simp [nwL],by simp [nwL],by simp [nwL],by simp [nwL],by simp [nwL],⟨h,Int.le_refl _⟩,h2⟩
theorem bd_add {B:Int} {l:La} {m:Mv} (h:bdLa B l) (h1:1≤m.tn) (h2:m.tn≤1048576):bdLa (B+1048576) (l.add m):=by
 obtain ⟨a0,a1,a2,a3,a4,a5,af,at'⟩:=h
 refine ⟨?_,?_,?_,?_,?_,?_,?_,?_⟩ <;> simp only [La.add] <;> (try split) <;> omega
theorem cu_bd {M:Ms} (h:lyP M):∀ k,k≤M.n→bdLa (1048576*k) (cuL M k)∧∀ x ∈ lyL M k,bdLa (1048576*k) x
 | 0,_=>⟨bd_nw (by omega) (by omega),fun x hx=>by simp [lyL] at hx⟩
 | k+1,hk=>by
  obtain ⟨h1,h2⟩:=cu_bd h k (by omega)
  have m:=h.h k (by omega)
  have e:(1048576:Int)*((k+1:Nat):Int)=1048576*k+1048576:=by push_cast; omega
  rw [e]
  have old:∀ x ∈ lyL M k,bdLa (1048576*k+1048576) x:=fun x hx=>bd_mono (h2 x hx) (by omega)
  by_cases hd:(M.f k).co=-1
  ·rw [(cu_d hd).1,(cu_d hd).2]; exact ⟨bd_mono h1 (by omega),old⟩
  ·have ha:=bd_add h1 m.2.2.1 m.2.2.2
   by_cases hj:jnM M (k+1)
   ·rw [(cu_j hd hj).1,(cu_j hd hj).2]; exact ⟨ha,old⟩
   ·rw [(cu_e hd hj).1,(cu_e hd hj).2]
    refine ⟨bd_nw (by have:=ha.f; omega) ha.t,fun x hx=>?_⟩
    rcases List.mem_append.1 hx with hx | hx
    ·exact old x hx
    ·simp at hx; rw [hx]; exact ha
theorem ly_pre {M:Ms}:∀ {k d:Nat},∃ t,lyL M (k+d)=lyL M k ++ t
 | k,0=>⟨[],by simp⟩
 | k,d+1=>by
  obtain ⟨t,ht⟩:=ly_pre (M:=M) (k:=k) (d:=d)
  rw [← Nat.add_assoc]
  by_cases hd:(M.f (k+d)).co=-1
  ·exact ⟨t,by rw [(cu_d hd).2,ht]⟩
  ·by_cases hj:jnM M (k+d+1)
   ·exact ⟨t,by rw [(cu_j hd hj).2,ht]⟩
   ·exact ⟨t ++ [_],by rw [(cu_e hd hj).2,ht,List.append_assoc]⟩
theorem ly_len {M:Ms} {k:Nat} (hk:k≤M.n):(lyL M k).length≤(lyL M M.n).length:=by
 obtain ⟨t,ht⟩:=ly_pre (M:=M) (k:=k) (d:=M.n - k)
 rw [show k+(M.n - k)=M.n by omega] at ht
 rw [ht]; simp
theorem ly_le {M:Ms}:∀ k,(lyL M k).length≤k
 | 0=>by simp [lyL]
 | k+1=>by
  have:=ly_le (M:=M) k
  by_cases hd:(M.f k).co=-1
  ·rw [(cu_d hd).2]; omega
  ·by_cases hj:jnM M (k+1)
   ·rw [(cu_j hd hj).2]; omega
   ·rw [(cu_e hd hj).2]; simp; omega
theorem ly_at {M:Ms} {k:Nat} (hk:k<M.n) (hd:¬ (M.f k).co=-1) (hj:¬ jnM M (k+1)):lyF M (lyL M k).length=(cuL M k).add (M.f k)∧(lyL M k).length<(lyL M M.n).length:=by
 obtain ⟨t,ht⟩:=ly_pre (M:=M) (k:=k+1) (d:=M.n - (k+1))
 rw [show k+1+(M.n - (k+1))=M.n by omega,(cu_e hd hj).2] at ht
 unfold lyF
 rw [ht]
 simp [List.getD]
theorem add_eq (l:La) (m:Mv) (h:0≤m.co∧m.co<6):(0≤cellZ l.sv.cells m.co.toNat→True) ∧
  (if m.co.toNat=0 then cellZ l.sv.cells m.co.toNat+m.tn else l.c0)=(l.add m).c0∧(if m.co.toNat=1 then cellZ l.sv.cells m.co.toNat+m.tn else l.c1)=(l.add m).c1 ∧
  (if m.co.toNat=2 then cellZ l.sv.cells m.co.toNat+m.tn else l.c2)=(l.add m).c2∧(if m.co.toNat=3 then cellZ l.sv.cells m.co.toNat+m.tn else l.c3)=(l.add m).c3 ∧
  (if m.co.toNat=4 then cellZ l.sv.cells m.co.toNat+m.tn else l.c4)=(l.add m).c4∧(if m.co.toNat=5 then cellZ l.sv.cells m.co.toNat+m.tn else l.c5)=(l.add m).c5 ∧
  (if m.co.toNat=6 then cellZ l.sv.cells m.co.toNat+m.tn else l.fr)=(l.add m).fr∧(if m.co.toNat=7 then cellZ l.sv.cells m.co.toNat+m.tn else l.to)+m.tn=(l.add m).to:=by
 refine ⟨fun _=>trivial,?_⟩
 have:m.co.toNat=0∨m.co.toNat=1∨m.co.toNat=2∨m.co.toNat=3∨m.co.toNat=4∨m.co.toNat=5:=by omega
 rcases this with e | e | e | e | e | e <;> simp [La.add,e,La.sv,SV.cells,cellZ,numZ]
theorem cell_bd {B:Int} {l:La} (h:bdLa B l) {i:Nat} (hi:i<6):0≤cellZ l.sv.cells i∧cellZ l.sv.cells i≤B:=by
 obtain ⟨a0,a1,a2,a3,a4,a5,af,at'⟩:=h
 have:i=0∨i=1∨i=2∨i=3∨i=4∨i=5:=by omega
 rcases this with e | e | e | e | e | e <;> subst e <;> simp only [La.sv,SV.cells,cellZ,numZ] <;> omega
theorem li_true {M:Ms} (h:lyP M):liG M:=by
 rw [liG_vc]
 simp only [rI,rE,tt3,tt4,tt5,tt13,tt14,rI,rE,tA,tB,tC,tD,tt3,tt4,tt5,tt13,tt14,and_true,true_and,Nat.zero_lt_one,and_self,implies_true,Int.toNat_natCast,Nat.zero_add,Nat.add_zero,Nat.one_mul,Nat.mul_one,Classical.not_not,iff_self,Bool.false_eq_true,imp_false,and_imp,true_implies,forall_const,ms_fold,cl_fold,mv_fold,cv_fold]
 have hn:=h.n
 refine ⟨⟨0,⟨by omega,ly_len (by omega)⟩,rfl,rfl,rfl,rfl,rfl,rfl,rfl,rfl,rfl,rfl,rfl⟩,fun z hz _=>⟨fun hl=>⟨by omega,hl,fun hd=>?_,fun hd=>?_⟩,fun hl=>?_⟩⟩
 ·obtain ⟨e1,e2⟩:=cu_d hd
  refine ⟨by omega,z+1,⟨by omega,ly_len (by omega)⟩,by omega,?_⟩
  rw [e1,e2]
  exact ⟨rfl,rfl,by omega,rfl,rfl,rfl,rfl,rfl,rfl,rfl,rfl⟩
 ·have m:=h.h z (by omega)
  obtain ⟨b1,b2⟩:=cu_bd h z (by omega)
  have hc:0≤(M.f z).co∧(M.f z).co<6:=by omega
  have hcb:=cell_bd b1 (i:=(M.f z).co.toNat) (by omega)
  have hto:=b1.f
  have htt:=b1.t
  obtain ⟨-,a0,a1,a2,a3,a4,a5,a6,a7⟩:=add_eq (cuL M z) (M.f z) hc
  have hla:=ly_len (M:=M) (k:=z) hz
  have hle:=ly_le (M:=M) z
  have e7:(if (M.f z).co.toNat=1+1+1+1+1+1+1 then cellZ (cuL M z).sv.cells (M.f z).co.toNat+(M.f z).tn else (cuL M z).to)=(cuL M z).to:=if_neg (by omega)
  have e8:((z:Int)+1).toNat=z+1:=by omega
  refine ⟨hc.1,hc.2,by omega,by omega,hc.1,hc.2,by omega,by rw [e7]; omega,by omega,⟨by omega,by omega,by omega⟩,fun hj=>?_,fun hj=>?_⟩
  ·rw [e8] at hj
   obtain ⟨e1,e2⟩:=cu_j hd hj
   refine ⟨by omega,z+1,⟨by omega,ly_len (by omega)⟩,by omega,?_⟩
   rw [e1,e2]
   exact ⟨rfl,rfl,by omega,a0,a1,a2,a3,a4,a5,a6,a7⟩
  ·rw [e8] at hj
   obtain ⟨e1,e2⟩:=cu_e hd hj
   obtain ⟨e3,e4⟩:=ly_at (M:=M) (k:=z) (by omega) hd hj
   rw [e3]
   refine ⟨e4,a0,a1,a2,a3,a4,a5,a6,a7,by omega,by omega,z+1,⟨by omega,ly_len (by omega)⟩,by omega,?_⟩
   rw [e1,e2]
   exact ⟨by simp,by simp,by omega,rfl,rfl,rfl,rfl,rfl,rfl,a7,a7⟩
 ·have:z=M.n:=by omega
  subst this; rfl
theorem li_ok:liC.Ok Try.prog:=by
 refine ⟨by kernel_rfl,fun fs us k hk=>?_⟩
 simp only [liC] at hk
 split at hk
 ·rename_i n f
  obtain ⟨hf,h,hk⟩:=hk
  have hh:=li_true h
  unfold liG at hh
  rw [← hf] at hh
  exact ⟨_,_,_,itH_ok (one_cs jn_ok) (fun _ _ _=>noX_sound) nilS_ic mixed hh,fun j _=>rfl,hk⟩
 ·exact hk.elim
end Go.Proofs.Ytfiaadlgfjokjaa
