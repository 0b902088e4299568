import Derived.Test.YtlhdlkplgafolaaIaIaVIbIcIcVId
set_option linter.unusedVariables false
set_option linter.unusedSimpArgs false
namespace Go.Proofs.Ytlhdlkplgafolaa
open Go Go.Lg
attribute [local irreducible] bodyH funS
structure Sti where
 inn:Int
 takes:Int
 on:Nat
 out:Nat→Tw
 pay:Int
 most:Int
def Sti.sv (s:Sti):SV:=.agg [i6 s.inn,i6 s.takes,twL s.on s.out,i6 s.pay,i6 s.most]
structure Sal where
 good:Int
 most:Int
 price:Int
def Sal.sv (s:Sal):SV:=.agg [i6 s.good,i6 s.most,i6 s.price]
structure Yd where
 g:Nat
 st:Nat→Int
 m:Nat
 sti:Nat→Sti
 q:Nat
 sal:Nat→Sal
def iL (n:Nat) (f:Nat→Int):SV:=.lst 1 n fun i=>i6 (f i)
def stiL (n:Nat) (f:Nat→Sti):SV:=.lst 5 n fun i=>(f i).sv
def salL (n:Nat) (f:Nat→Sal):SV:=.lst 3 n fun i=>(f i).sv
def Yd.cells (Y:Yd):List SV:=[iL Y.g Y.st,stiL Y.m Y.sti,salL Y.q Y.sal]
def Yd.sv (Y:Yd):SV:=.agg Y.cells
def iOf (f:Nat→SV) (i:Nat):Int:=prI (f i)
def stiOf:SV→Sti
 | .agg [.int _ a,.int _ b,.lst _ n h,.int _ c,.int _ d]=>⟨a,b,n,ftOf h,c,d⟩
 | _=>⟨0,0,0,fun _=>⟨0,0⟩,0,0⟩
def salOf:SV→Sal
 | .agg [.int _ a,.int _ b,.int _ c]=>⟨a,b,c⟩
 | _=>⟨0,0,0⟩
def ydOf (g:Nat) (st:Nat→SV) (m:Nat) (sti:Nat→SV) (q:Nat) (sal:Nat→SV):Yd:=⟨g,iOf st,m,fun i=>stiOf (sti i),q,fun i=>salOf (sal i)⟩
def okOut (s:Sti) (k:Nat):Prop:=((k:Int)≤s.inn→(s.out k).lo=0∧(s.out k).hi=0)∧okSp 1048576 (s.out k).lo (s.out k).hi
structure okSti (g:Int) (s:Sti):Prop where
 i0:0≤s.inn
 i1:s.inn≤g - 1
 t0:1≤s.takes
 t1:s.takes≤1048576
 n:(s.on:Int)=g
 o:∀ k,k<s.on→okOut s k
 p0:0≤s.pay
 p1:s.pay≤1000000
 m0:0≤s.most
 m1:s.most≤8
structure okSal (g:Int) (s:Sal):Prop where
 g0:0≤s.good
 g1:s.good≤g - 1
 m0:0≤s.most
 m1:s.most≤1048576
 p0:0≤s.price
 p1:s.price≤1000000
def okNb (m x:Int):Prop:=0≤x∧x≤m
structure okStk (n:Nat) (f:Nat→Int):Prop where
 a:1≤n
 b:n≤6
 c:∀ i,i<n→okNb 1048576 (f i)
def okPos (g:Int) (f:Nat→Sti) (i:Nat):Prop:=(0<i→(f (i - 1)).inn≤(f i).inn)∧okSti g (f i)
structure okSts (g:Int) (m:Nat) (f:Nat→Sti):Prop where
 a:m≤4
 b:∀ i,i<m→okPos g f i
structure okSls (g:Int) (q:Nat) (f:Nat→Sal):Prop where
 a:q≤6
 b:∀ i,i<q→okSal g (f i)
structure okYd (Y:Yd):Prop where
 g:okStk Y.g Y.st
 s:okSts Y.g Y.m Y.sti
 l:okSls Y.g Y.q Y.sal
noncomputable def cntX (nt s:Nat) (x:SV) (n:Nat) (inv:Nat→Prop) (fr:List (Nat × SV)) (rows:List (Option SRow)):Nat→Option HSpec :=
 oneL 0 (natH (fun k=>k≤n∧inv k) (fun k=>n - k) rows.length (fun k=>mkF nt (fr ++ [(s,x),(s+1,i6 n),(s+2,i6 k)])) (fun _=>mkX rows) fun _=>none)
noncomputable def skG (n:Nat) (f:Nat→Int):Prop:=funH Try.prog (ctrs [frC 50]) noX (ictrs []) (cntX 19 9 (iL n f) n (fun k=>∀ i,i<k→okNb 1048576 (f i)) [] []) noL 40 [iL n f] (.dec (okStk n f) (Classical.propDecidable _))
noncomputable def skC:Ctr:=⟨40,fun args k=>match args with
 | [.lst 1 n f]=>SV.lst 1 n f=iL n (iOf f)∧k (.dec (okStk n (iOf f)) (Classical.propDecidable _))
 | _=>False⟩
noncomputable def slG (g:Int) (n:Nat) (f:Nat→Sal):Prop:=funH Try.prog (ctrs [frC 50]) noX (ictrs []) (cntX 35 10 (salL n f) n (fun k=>∀ i,i<k→okSal g (f i)) [(1,i6 g)] []) noL 42 [salL n f,i6 g] (.dec (okSls g n f) (Classical.propDecidable _))
noncomputable def slC:Ctr:=⟨42,fun args k=>match args with
 | [.lst 3 n f,.int .i64 g]=>SV.lst 3 n f=salL n (fun i=>salOf (f i))∧(1≤g∧g≤6)∧k (.dec (okSls g n (fun i=>salOf (f i))) (Classical.propDecidable _))
 | _=>False⟩
noncomputable def siG (g:Int) (s:Sti):Prop:=funH Try.prog (ctrs [frC 50,vhC 49]) noX (ictrs []) (cntX 55 27 (twL s.on s.out) s.on (fun k=>∀ i,i<k→okOut s i) [(1,i6 g),(2,.ptr 0 0 0)] [vr 5 s.sv]) noL 51 [s.sv,i6 g] (.dec (okSti g s) (Classical.propDecidable _))
noncomputable def siC:Ctr:=⟨51,fun args k=>match args with
 | [.agg [.int .i64 a,.int .i64 b,.lst 2 n h,.int .i64 c,.int .i64 d],.int .i64 g]=>SV.lst 2 n h=twL n (ftOf h)∧(1≤g∧g≤6)∧k (.dec (okSti g ⟨a,b,n,ftOf h,c,d⟩) (Classical.propDecidable _))
 | _=>False⟩
noncomputable def ssG (g:Int) (n:Nat) (f:Nat→Sti):Prop:=funH Try.prog (ctrs [siC]) noX (ictrs []) (cntX 35 10 (stiL n f) n (fun k=>∀ i,i<k→okPos g f i) [(0,stiL n f),(1,i6 g)] []) noL 41 [stiL n f,i6 g] (.dec (okSts g n f) (Classical.propDecidable _))
noncomputable def ssC:Ctr:=⟨41,fun args k=>match args with
 | [.lst 5 n f,.int .i64 g]=>SV.lst 5 n f=stiL n (fun i=>stiOf (f i))∧(1≤g∧g≤6)∧k (.dec (okSts g n (fun i=>stiOf (f i))) (Classical.propDecidable _))
 | _=>False⟩
noncomputable def ydG (Y:Yd):Prop:=funH Try.prog (ctrs [skC,ssC,slC]) noX (ictrs []) noL noL 25 [Y.sv] (.dec (okYd Y) (Classical.propDecidable _))
noncomputable def ydC (f:FuncId):Ctr:=⟨f,fun args k=>match args with
 | [.agg [.lst 1 g st,.lst 5 m sti,.lst 3 q sal]]=>SV.agg [.lst 1 g st,.lst 5 m sti,.lst 3 q sal]=(ydOf g st m sti q sal).sv∧k (.dec (okYd (ydOf g st m sti q sal)) (Classical.propDecidable _))
 | _=>False⟩
theorem rd2 (n s1 s2:Nat) (t:FS) (X:XS) (k:Nat × Nat→Prop) (h:(match sget n t s1,sget n t s2 with
  | .int _ a,.int _ b=>k (a.toNat,b.toNat)
  | _,_=>False)):∃ s,k s:=by
 split at h
 ·exact ⟨_,h⟩
 ·exact h.elim
noncomputable def twH (n s1 s2 nr:Nat) (inv:Nat × Nat→Prop) (μ:Nat × Nat→Nat) (t:Nat × Nat→FS) (X:Nat × Nat→XS):HSpec :=
 { toLSpec:={ σ:=Nat × Nat,inv:=inv,μ:=μ,nr:=nr,ms:=fun _ _=>[],t:=t,X:=X,rd:=fun t X k=>(match sget n t s1,sget n t s2 with
  | .int _ a,.int _ b=>k (a.toNat,b.toNat)
  | _,_=>False),rdOK:=rd2 n s1 s2 },par:=some ⟨fun t _ k=>match sget n t s1 with
  | .int _ a=>k a.toNat
  | _=>False,rdI⟩,kinv:=fun y s=>s.1=y }
noncomputable def ryG (Y:Yd):Prop:=funH Try.prog (ctrs [frC 33,vhC 39]) noX (ictrs [])
 (twoL 0 (natH (fun k=>k≤Y.g∧∀ i,i<k→okNb 1048576 (Y.st i)) (fun k=>Y.g - k) 1 (fun k=>mkF 156 [(1,.ptr 0 0 0),(3,i6 Y.g),(4,i6 k)]) (fun _=>mkX [vr 3 Y.sv]) fun _=>none) <|
 twoL 2 (natH (fun k=>k≤Y.m∧∀ i,i<k→okPos Y.g Y.sti i) (fun k=>Y.m - k) 1 (fun k=>mkF 156 [(1,.ptr 0 0 0),(3,i6 Y.g),(5,i6 k)]) (fun _=>mkX [vr 3 Y.sv]) fun _=>none) <|
 twoL 4 (twH 156 5 7 2 (fun p=>p.2≤Y.g∧∀ i,i<p.2→okOut (Y.sti p.1) i) (fun p=>Y.g - p.2) (fun p=>mkF 156 [(1,.ptr 0 0 0),(3,i6 Y.g),(5,i6 p.1),(6,.ptr 1 0 0),(7,i6 p.2)]) (fun p=>mkX [vr 3 Y.sv,vr 5 (Y.sti p.1).sv])) <|
 oneL 6 (natH (fun k=>k≤Y.q∧∀ i,i<k→okSal Y.g (Y.sal i)) (fun k=>Y.q - k) 1 (fun k=>mkF 156 [(1,.ptr 0 0 0),(3,i6 Y.g),(8,i6 k)]) (fun _=>mkX [vr 3 Y.sv]) fun _=>none)) noL
 21 [Y.sv] (.dec (okYd Y) (Classical.propDecidable _))
noncomputable def prJ (f:Nat→Sti):Nat→Int
 | 0=>1
 | k+1=>prJ f k*(1+(f k).most)
open Classical in
noncomputable def prY (Y:Yd) (k:Nat):Int:=if okYd Y then prJ Y.sti k else 1
structure noLg (Y:Yd) (p:Int):Prop where
 a:Y.g≤12
 b:Y.m≤10
 c:Y.q≤12
 d:∀ i,i<Y.m→(Y.sti i).on≤12
 e:prY Y Y.m≤p
noncomputable def lgG (Y:Yd) (p:Int):Prop:=funH Try.prog (ctrs [ydC 21]) noX (ictrs [])
 (oneL 0 (natH (fun k=>k≤Y.m∧Y.m≤10∧∀ i,i<k→(Y.sti i).on≤12) (fun k=>Y.m - k) 1 (fun k=>mkF 52 [(1,i6 p),(2,.ptr 0 0 0),(5,i6 (prY Y k)),(6,i6 k)]) (fun _=>mkX [vr 3 Y.sv]) fun _=>none)) noL
 9 [Y.sv,i6 p] (.dec (¬ noLg Y p) (Classical.propDecidable _))
noncomputable def lgC:Ctr:=⟨9,fun args k=>match args with
 | [.agg [.lst 1 g st,.lst 5 m sti,.lst 3 q sal],.int .i64 p]=>SV.agg [.lst 1 g st,.lst 5 m sti,.lst 3 q sal]=(ydOf g st m sti q sal).sv∧k (.dec (¬ noLg (ydOf g st m sti q sal) p) (Classical.propDecidable _))
 | _=>False⟩
end Go.Proofs.Ytlhdlkplgafolaa

set_option maxRecDepth 100000
namespace Go.Proofs.Ytlhdlkplgafolaa
open Go Go.Lg
theorem skG_vc (n:Nat) (f:Nat→Int):skG n f =
((¬((1:Int)≤(↑n:Int)∧(↑n:Int)≤(6:Int))→(false=true↔okStk n f)∧True)∧(¬¬((1:Int)≤(↑n:Int)∧(↑n:Int)≤(6:Int))→(∃ (z:Nat),(z≤n∧∀ (i:Nat),i<z→okNb (1048576:Int) (f i))∧n=n∧(∀ (i:Nat),i<n→rE ((i6 (f i)).den)∧True)∧rE (↑n:Int)∧(0:Int)=(↑z:Int)∧True)∧∀ (z:Nat),(z≤n∧∀ (i:Nat),i<z→okNb (1048576:Int) (f i))→((↑z:Int)<(↑n:Int)→(0:Int)≤(↑z:Int)∧(↑z:Int)<(↑n:Int)∧(¬((0:Int)≤f (↑z:Int).toNat∧f (↑z:Int).toNat≤(1048576:Int))→(false=true↔okStk n f)∧True)∧(¬¬((0:Int)≤f (↑z:Int).toNat∧f (↑z:Int).toNat≤(1048576:Int))→rI ((↑z:Int)+(1:Int))∧∃ (z_1:Nat),(z_1≤n∧∀ (i:Nat),i<z_1→okNb (1048576:Int) (f i))∧n - z_1<n - z∧n=n∧(∀ (i:Nat),i<n→rE ((i6 (f i)).den)∧True)∧rE (↑n:Int)∧(↑z:Int)+(1:Int) =
(↑z_1:Int)∧True))∧(¬(↑z:Int)<(↑n:Int)→(rE true↔okStk n f)∧True))):=by kernel_rfl
theorem slG_vc (g:Int) (n:Nat) (f:Nat→Sal):slG g n f =
(((6:Int)<(↑n:Int)→(false=true↔okSls g n f)∧True)∧(¬(6:Int)<(↑n:Int)→(∃ (z:Nat),(z≤n∧∀ (i:Nat),i<z→okSal g (f i))∧g=g∧n=n∧(∀ (i:Nat),i<n→rE ((f i).sv.den)∧True∧True∧True∧True)∧rE (↑n:Int)∧(0:Int)=(↑z:Int)∧True)∧∀ (z:Nat),(z≤n∧∀ (i:Nat),i<z→okSal g (f i))→((↑z:Int)<(↑n:Int)→(0:Int)≤(↑z:Int)∧(↑z:Int)<(↑n:Int)∧(0:Nat)<(1:Nat)∧rI (g - (1:Int))∧(¬((0:Int)≤(f (↑z:Int).toNat).1∧(f (↑z:Int).toNat).1≤g - (1:Int))→(false=true↔okSls g n f)∧True)∧(¬¬((0:Int)≤(f (↑z:Int).toNat).1∧(f (↑z:Int).toNat).1≤g - (1:Int))→(0:Nat)<(1:Nat)∧(¬((0:Int)≤(f (↑z:Int).toNat).2∧(f (↑z:Int).toNat).2≤(1048576:Int))→(false=true↔okSls g n f)∧True)∧(¬¬((0:Int)≤(f (↑z:Int).toNat).2∧(f (↑z:Int).toNat).2≤(1048576 :
Int))→(0:Nat)<(1:Nat)∧(¬((0:Int)≤(f (↑z:Int).toNat).3∧(f (↑z:Int).toNat).3≤(1000000:Int))→(false=true↔okSls g n f)∧True)∧(¬¬((0:Int)≤(f (↑z:Int).toNat).3∧(f (↑z:Int).toNat).3≤(1000000:Int))→rI ((↑z:Int)+(1:Int))∧∃ (z_1:Nat),(z_1≤n∧∀ (i:Nat),i<z_1→okSal g (f i))∧n - z_1<n - z∧g=g∧n=n∧(∀ (i:Nat),i<n→rE ((f i).sv.den)∧True∧True∧True∧True)∧rE (↑n:Int)∧(↑z:Int)+(1:Int)=(↑z_1:Int)∧True))))∧(¬(↑z:Int)<(↑n:Int)→(rE true↔okSls g n f)∧True))):=by kernel_rfl
def siG0 (g:Int) (s:Sti) (z:Nat):Prop:=(¬¬okSp (1048576:Int) (s.out (↑z:Int).toNat).lo (s.out (↑z:Int).toNat).hi→rI ((↑z:Int)+(1:Int))∧∃ (z_1:Nat),(z_1≤s.3∧∀ (i:Nat),i<z_1→okOut s i)∧s.3 - z_1<s.3 - z∧g=g∧rE (0:Nat)∧rE (0:Nat)∧s.3=s.3∧(∀ (i:Nat),i<s.3→rE ((s.out i).sv.den)∧True∧True∧True)∧rE (↑s.3:Int)∧(↑z:Int)+(1:Int)=(↑z_1:Int)∧s.1=s.1∧s.2=s.2∧s.3=s.3∧(∀ (i:Nat),i<s.3→rE ((s.out i).sv.den)∧True∧True∧True)∧s.5=s.5∧s.6=s.6∧True)
theorem siG_vc (g:Int) (s:Sti):siG g s =
((0:Nat)<(1:Nat)∧rI (g - (1:Int))∧(¬((0:Int)≤s.1∧s.1≤g - (1:Int))→(false=true↔okSti g s)∧True)∧(¬¬((0:Int)≤s.1∧s.1≤g - (1:Int))→(0:Nat)<(1:Nat)∧(¬((1:Int)≤s.2∧s.2≤(1048576:Int))→(false=true↔okSti g s)∧True)∧(¬¬((1:Int)≤s.2∧s.2≤(1048576:Int))→(0:Nat)<(1:Nat)∧(¬(↑s.3:Int)=g→(false=true↔okSti g s)∧True)∧(¬¬(↑s.3:Int)=g→(0:Nat)<(1:Nat)∧(∃ (z:Nat),(z≤s.3∧∀ (i:Nat),i<z→okOut s i)∧g=g∧rE (0:Nat)∧rE (0:Nat)∧s.3=s.3∧(∀ (i:Nat),i<s.3→rE ((s.out i).sv.den)∧True∧True∧True)∧rE (↑s.3:Int)∧(0:Int)=(↑z:Int)∧s.1=s.1∧s.2=s.2∧s.3=s.3∧(∀ (i:Nat),i<s.3→rE ((s.out i).sv.den)∧True∧True∧True)∧s.5=s.5∧s.6=s.6∧True)∧∀ (z:Nat),(z≤s.3∧∀ (i:Nat),i<z→okOut s i)→((↑z:Int)<(↑s.3:Int) →
(0:Int)≤(↑z:Int)∧(↑z:Int)<(↑s.3:Int)∧(0:Nat)<(1:Nat)∧((↑z:Int)≤s.1→(0:Nat)<(1:Nat)∧(¬((s.out (↑z:Int).toNat).1=(0:Int)∧(s.out (↑z:Int).toNat).2=(0:Int))→(false=true↔okSti g s)∧True)∧(¬¬((s.out (↑z:Int).toNat).1=(0:Int)∧(s.out (↑z:Int).toNat).2=(0:Int))→(0:Nat)<(1:Nat)∧(¬okSp (1048576:Int) (s.out (↑z:Int).toNat).lo (s.out (↑z:Int).toNat).hi→(false=true↔okSti g s)∧True)∧(siG0 g s z)))∧(¬(↑z:Int)≤s.1→(0:Nat)<(1:Nat)∧(¬okSp (1048576:Int) (s.out (↑z:Int).toNat).lo (s.out (↑z:Int).toNat).hi→(false=true↔okSti g s)∧True)∧(siG0 g s z)))∧(¬(↑z:Int)<(↑s.3:Int)→(0:Nat)<(1:Nat)∧((0:Int)≤s.5∧s.5≤(1000000:Int)→(0:Nat)<(1:Nat)∧((0:Int)≤s.6∧s.6≤(8:Int)↔okSti g s)∧True)∧(¬((0:Int)≤s.5∧s.5≤(1000000:Int)) →
(false=true↔okSti g s)∧True)))))):=by kernel_rfl
def ssG1 (n:Nat) (f:Nat→Sti):Prop:=(∀ (i:Nat),i<n→rE ((f i).sv.den)∧True∧True∧(∀ (i_1:Nat),i_1<(f i).3→True∧True∧True)∧True∧True∧True)
def ssG0 (g:Int) (n:Nat) (f:Nat→Sti) (z:Nat):Prop:=(¬¬okSti g (Sti.mk (f (↑z:Int).toNat).inn (f (↑z:Int).toNat).takes (f (↑z:Int).toNat).on (ftOf fun i=>((f (↑z:Int).toNat).out i).sv) (f (↑z:Int).toNat).pay (f (↑z:Int).toNat).most)→rI ((↑z:Int)+(1:Int))∧∃ (z_1:Nat),(z_1≤n∧∀ (i:Nat),i<z_1→okPos g f i)∧n - z_1<n - z∧n=n∧(ssG1 n f)∧g=g∧n=n∧(ssG1 n f)∧rE (↑n:Int)∧(↑z:Int)+(1:Int)=(↑z_1:Int)∧True)
theorem ssG_vc (g:Int) (n:Nat) (f:Nat→Sti):ssG g n f =
(((4:Int)<(↑n:Int)→(false=true↔okSts g n f)∧True)∧(¬(4:Int)<(↑n:Int)→(∃ (z:Nat),(z≤n∧∀ (i:Nat),i<z→okPos g f i)∧n=n∧(ssG1 n f)∧g=g∧n=n∧(ssG1 n f)∧rE (↑n:Int)∧(0:Int)=(↑z:Int)∧True)∧∀ (z:Nat),(z≤n∧∀ (i:Nat),i<z→okPos g f i)→((↑z:Int)<(↑n:Int)→(0:Int)≤(↑z:Int)∧(↑z:Int)<(↑n:Int)∧((0:Int)<(↑z:Int)→(0:Nat)<(1:Nat)∧rI ((↑z:Int) - (1:Int))∧(0:Int)≤(↑z:Int) - (1:Int)∧(↑z:Int) - (1:Int)<(↑n:Int)∧((f (↑z:Int).toNat).1<(f ((↑z:Int) - (1:Int)).toNat).1→(false=true↔okSts g n f)∧True)∧(¬(f (↑z:Int).toNat).1<(f ((↑z:Int) - (1:Int)).toNat).1→(0:Nat)<(1:Nat)∧(∀ (i:Nat),i<(f (↑z:Int).toNat).3→True∧True∧True)∧(SV.lst (2:Nat) (f (↑z:Int).toNat).on fun i=>((f (↑z:Int).toNat).out i).sv)=twL (f (↑z :
Int).toNat).on (ftOf fun i=>((f (↑z:Int).toNat).out i).sv)∧((1:Int)≤g∧g≤(6:Int))∧(¬okSti g (Sti.mk (f (↑z:Int).toNat).inn (f (↑z:Int).toNat).takes (f (↑z:Int).toNat).on (ftOf fun i=>((f (↑z:Int).toNat).out i).sv) (f (↑z:Int).toNat).pay (f (↑z:Int).toNat).most)→(false=true↔okSts g n f)∧True)∧(ssG0 g n f z)))∧(¬(0:Int)<(↑z:Int)→(0:Nat)<(1:Nat)∧(∀ (i:Nat),i<(f (↑z:Int).toNat).3→True∧True∧True)∧(SV.lst (2:Nat) (f (↑z:Int).toNat).on fun i=>((f (↑z:Int).toNat).out i).sv)=twL (f (↑z:Int).toNat).on (ftOf fun i=>((f (↑z:Int).toNat).out i).sv)∧((1:Int)≤g∧g≤(6:Int))∧(¬okSti g (Sti.mk (f (↑z:Int).toNat).inn (f (↑z:Int).toNat).takes (f (↑z:Int).toNat).on (ftOf fun i=>((f (↑z:Int).toNat).out i).sv) (f (↑z:Int).toNat).pay (f (↑z:Int).toNat).most)→(false=true↔okSts g n f)∧True)
∧ (ssG0 g n f z)))∧(¬(↑z:Int)<(↑n:Int)→(rE true↔okSts g n f)∧True))):=by kernel_rfl
theorem ydG_vc (Y:Yd):ydG Y =
((0:Nat)<(1:Nat)∧(∀ (i:Nat),i<Y.1→True)∧(SV.lst (1:Nat) Y.g fun i=>i6 (Y.st i))=iL Y.g (iOf fun i=>i6 (Y.st i))∧(okStk Y.g (iOf fun i=>i6 (Y.st i))→(0:Nat)<(1:Nat)∧(0:Nat)<(1:Nat)∧(∀ (i:Nat),i<Y.3→True∧True∧(∀ (i_1:Nat),i_1<(Y.sti i).3→True∧True∧True)∧True∧True∧True)∧((SV.lst (5:Nat) Y.m fun i=>(Y.sti i).sv)=stiL Y.m fun i=>stiOf (Y.sti i).sv)∧((1:Int)≤(↑Y.1:Int)∧(↑Y.1:Int)≤(6:Int))∧((okSts (↑Y.g:Int) Y.m fun i=>stiOf (Y.sti i).sv)→(0:Nat)<(1:Nat)∧(0:Nat)<(1:Nat)∧(∀ (i:Nat),i<Y.5→True∧True∧True∧True)∧((SV.lst (3:Nat) Y.q fun i=>(Y.sal i).sv)=salL Y.q fun i=>salOf (Y.sal i).sv)∧((1:Int)≤(↑Y.1:Int)∧(↑Y.1:Int)≤(6:Int))∧((okSls (↑Y.g:Int) Y.q fun i=>salOf (Y.sal i).sv)↔okYd Y)∧True)∧((¬okSts (↑Y.g:Int) Y.m fun i =>
stiOf (Y.sti i).sv)→(false=true↔okYd Y)∧True))∧(¬okStk Y.g (iOf fun i=>i6 (Y.st i))→(false=true↔okYd Y)∧True)):=by kernel_rfl
def ryG1 (Y:Yd):Prop:=(∀ (i:Nat),i<Y.3→rE ((Y.sti i).sv.den)∧True∧True∧(∀ (i_1:Nat),i_1<(Y.sti i).3→True∧True∧True)∧True∧True∧True)
def ryG3 (Y:Yd):Prop:=(∀ (i:Nat),i<Y.5→rE ((Y.sal i).sv.den)∧True∧True∧True∧True)
def ryG0 (Y:Yd) (z:Nat) (zp9_1:Nat × Nat):Prop:=((↑zp9_1.2:Int)<(↑Y.1:Int)→(0:Nat)<(1:Nat)∧(0:Int)≤(↑zp9_1.2:Int)∧(↑zp9_1.2:Int)<(↑(Y.sti zp9_1.fst).3:Int)∧(¬okSp (1048576:Int) ((Y.sti zp9_1.fst).out (↑zp9_1.snd:Int).toNat).lo ((Y.sti zp9_1.fst).out (↑zp9_1.snd:Int).toNat).hi→(false=true↔okYd Y)∧True)∧(¬¬okSp (1048576:Int) ((Y.sti zp9_1.fst).out (↑zp9_1.snd:Int).toNat).lo ((Y.sti zp9_1.fst).out (↑zp9_1.snd:Int).toNat).hi→(0:Nat)<(1:Nat)∧((↑zp9_1.2:Int)≤(Y.sti zp9_1.fst).1→(0:Nat)<(1:Nat)∧(0:Int)≤(↑zp9_1.2:Int)∧(↑zp9_1.2:Int)<(↑(Y.sti zp9_1.fst).3:Int)∧(¬(((Y.sti zp9_1.fst).out (↑zp9_1.snd:Int).toNat).1=(0:Int)∧((Y.sti zp9_1.fst).out (↑zp9_1.snd:Int).toNat).2=(0:Int))→(false=true↔okYd Y)∧True)∧(¬¬(((Y.sti zp9_1.fst).out (↑zp9_1.snd:Int).toNat).1=(0:Int)∧((Y.sti zp9_1.fst).out (↑zp9_1.snd:Int).toNat).2=(0:Int))→rI ((↑zp9_1.2:Int)+(1:Int))∧((((↑zp9_1.2:Int)+(1:Int)).toNat≤Y.1∧∀ (i_2:Nat),i_2<((↑zp9_1.2:Int)+(1:Int)).toNat→okOut (Y.sti (↑zp9_1.fst:Int).toNat) i_2)∧(↑zp9_1.1:Int).toNat=(↑z:Int).toNat)∧Y.1 - ((↑zp9_1.2:Int)+(1:Int)).toNat<Y.1 - zp9_1.2∧rE (0:Nat)∧rE (0:Nat)∧rE (↑Y.1:Int)∧(↑zp9_1.1:Int)=(↑(↑zp9_1.1:Int).toNat:Int)∧rE (0:Nat)∧rE (0:Nat)∧(↑zp9_1.2:Int)+(1:Int)=(↑((↑zp9_1.2:Int)+(1:Int)).toNat:Int)∧Y.1=Y.1∧(∀ (i:Nat),i<Y.1→rE ((i6 (Y.st i)).den)∧True)∧Y.3=Y.3∧(ryG1 Y)∧Y.5=Y.5∧(ryG3 Y)∧(Y.sti zp9_1.fst).1=(Y.sti (↑zp9_1.fst:Int).toNat).1∧(Y.sti zp9_1.fst).2=(Y.sti (↑zp9_1.fst:Int).toNat).2∧(Y.sti zp9_1.fst).3=(Y.sti (↑zp9_1.fst:Int).toNat).3∧(∀ (i_2:Nat),i_2<(Y.sti (↑zp9_1.fst:Int).toNat).3→((Y.sti zp9_1.fst).out i_2).sv.den=((Y.sti (↑zp9_1.fst:Int).toNat).out i_2).sv.den∧True∧True∧True)∧(Y.sti zp9_1.fst).5=(Y.sti (↑zp9_1.fst:Int).toNat).5∧(Y.sti zp9_1.fst).6=(Y.sti (↑zp9_1.fst:Int).toNat).6∧True))∧(¬(↑zp9_1.2:Int)≤(Y.sti zp9_1.fst).1→rI ((↑zp9_1.2:Int)+(1:Int))∧((((↑zp9_1.2:Int)+(1:Int)).toNat≤Y.1∧∀ (i_2:Nat),i_2<((↑zp9_1.2:Int)+(1:Int)).toNat→okOut (Y.sti (↑zp9_1.fst:Int).toNat) i_2)∧(↑zp9_1.1:Int).toNat=(↑z:Int).toNat)∧Y.1 - ((↑zp9_1.2:Int)+(1:Int)).toNat<Y.1 - zp9_1.2∧rE (0:Nat)∧rE (0:Nat)∧rE (↑Y.1:Int)∧(↑zp9_1.1:Int)=(↑(↑zp9_1.1:Int).toNat:Int)∧rE (0:Nat)∧rE (0:Nat)∧(↑zp9_1.2:Int)+(1:Int)=(↑((↑zp9_1.2:Int)+(1:Int)).toNat:Int)∧Y.1=Y.1∧(∀ (i:Nat),i<Y.1→rE ((i6 (Y.st i)).den)∧True)∧Y.3=Y.3∧(ryG1 Y)∧Y.5=Y.5∧(ryG3 Y)∧(Y.sti zp9_1.fst).1=(Y.sti (↑zp9_1.fst:Int).toNat).1∧(Y.sti zp9_1.fst).2=(Y.sti (↑zp9_1.fst:Int).toNat).2∧(Y.sti zp9_1.fst).3=(Y.sti (↑zp9_1.fst:Int).toNat).3∧(∀ (i_2:Nat),i_2<(Y.sti (↑zp9_1.fst:Int).toNat).3→((Y.sti zp9_1.fst).out i_2).sv.den=((Y.sti (↑zp9_1.fst:Int).toNat).out i_2).sv.den∧True∧True∧True)∧(Y.sti zp9_1.fst).5=(Y.sti (↑zp9_1.fst:Int).toNat).5∧(Y.sti zp9_1.fst).6=(Y.sti (↑zp9_1.fst:Int).toNat).6∧True)))
def ryG2 (Y:Yd) (z:Nat):Prop:=((((0:Nat)≤Y.1∧∀ (i_1:Nat),i_1<(0:Nat)→okOut (Y.sti (↑z:Int).toNat) i_1)∧z=(↑z:Int).toNat)∧rE (0:Nat)∧rE (0:Nat)∧rE (↑Y.1:Int)∧rE (↑z:Int)∧rE (0:Nat)∧rE (0:Nat)∧(0:Int)=(↑(0:Nat):Int)∧Y.1=Y.1∧(∀ (i:Nat),i<Y.1→rE ((i6 (Y.st i)).den)∧True)∧Y.3=Y.3∧(ryG1 Y)∧Y.5=Y.5∧(ryG3 Y)∧rE ((Y.sti (↑z:Int).toNat).1)∧rE ((Y.sti (↑z:Int).toNat).2)∧rE ((Y.sti (↑z:Int).toNat).3)∧(∀ (i_1:Nat),i_1<(Y.sti (↑z:Int).toNat).3→rE (((Y.sti (↑z:Int).toNat).out i_1).sv.den)∧True∧True∧True)∧rE ((Y.sti (↑z:Int).toNat).5)∧rE ((Y.sti (↑z:Int).toNat).6)∧True)
def ryG4 (Y:Yd) (z:Nat) (zp9_1:Nat × Nat):Prop:=(¬(↑zp9_1.2:Int)<(↑Y.1:Int)→rI ((↑zp9_1.1:Int)+(1:Int))∧∃ (z_2:Nat),(z_2≤Y.3∧∀ (i_3:Nat),i_3<z_2→okPos (↑Y.g:Int) Y.sti i_3)∧Y.3 - z_2<Y.3 - z∧rE (0:Nat)∧rE (0:Nat)∧rE (↑Y.1:Int)∧(↑zp9_1.1:Int)+(1:Int)=(↑z_2:Int)∧Y.1=Y.1∧(∀ (i:Nat),i<Y.1→rE ((i6 (Y.st i)).den)∧True)∧Y.3=Y.3∧(ryG1 Y)∧Y.5=Y.5∧(ryG3 Y)∧True)
theorem ryG_vc (Y:Yd):ryG Y =
((0:Nat)<(1:Nat)∧(¬((1:Int)≤(↑Y.1:Int)∧(↑Y.1:Int)≤(6:Int))→(false=true↔okYd Y)∧True)∧(¬¬((1:Int)≤(↑Y.1:Int)∧(↑Y.1:Int)≤(6:Int))→(0:Nat)<(1:Nat)∧((4:Int)<(↑Y.3:Int)→(false=true↔okYd Y)∧True)∧(¬(4:Int)<(↑Y.3:Int)→(0:Nat)<(1:Nat)∧((6:Int)<(↑Y.5:Int)→(false=true↔okYd Y)∧True)∧(¬(6:Int)<(↑Y.5:Int)→(∃ (z:Nat),(z≤Y.1∧∀ (i_1:Nat),i_1<z→okNb (1048576:Int) (Y.st i_1))∧rE (0:Nat)∧rE (0:Nat)∧rE (↑Y.1:Int)∧(0:Int)=(↑z:Int)∧Y.1=Y.1∧(∀ (i:Nat),i<Y.1→rE ((i6 (Y.st i)).den)∧True)∧Y.3=Y.3∧(ryG1 Y)∧Y.5=Y.5∧(ryG3 Y)∧True)∧∀ (z:Nat),(z≤Y.1∧∀ (i_1:Nat),i_1<z→okNb (1048576:Int) (Y.st i_1))→((↑z:Int)<(↑Y.1:Int)→(0:Nat)<(1:Nat)∧(0:Int)≤(↑z:Int)∧(↑z:Int)<(↑Y.1:Int)∧(¬((0:Int)≤Y.2 (↑z
: Int).toNat∧Y.2 (↑z:Int).toNat≤(1048576:Int))→(false=true↔okYd Y)∧True)∧(¬¬((0:Int)≤Y.2 (↑z:Int).toNat∧Y.2 (↑z:Int).toNat≤(1048576:Int))→rI ((↑z:Int)+(1:Int))∧∃ (z_1:Nat),(z_1≤Y.1∧∀ (i_2:Nat),i_2<z_1→okNb (1048576:Int) (Y.st i_2))∧Y.1 - z_1<Y.1 - z∧rE (0:Nat)∧rE (0:Nat)∧rE (↑Y.1:Int)∧(↑z:Int)+(1:Int)=(↑z_1:Int)∧Y.1=Y.1∧(∀ (i:Nat),i<Y.1→rE ((i6 (Y.st i)).den)∧True)∧Y.3=Y.3∧(ryG1 Y)∧Y.5=Y.5∧(ryG3 Y)∧True))∧(¬(↑z:Int)<(↑Y.1:Int)→(∃ (z:Nat),(z≤Y.3∧∀ (i_1:Nat),i_1<z→okPos (↑Y.g:Int) Y.sti i_1)∧rE (0:Nat)∧rE (0:Nat)∧rE (↑Y.1:Int)∧(0:Int)=(↑z:Int)∧Y.1=Y.1∧(∀ (i:Nat),i<Y.1→rE ((i6 (Y.st i)).den)∧True)∧Y.3=Y.3∧(ryG1 Y)∧Y.5=Y.5∧(ryG3 Y)∧True)∧∀ (z:Nat),(z≤Y.3∧∀ (i_1:Nat),i_1<z→okPos (↑Y.g :
Int) Y.sti i_1)→(0:Nat)<(1:Nat)∧((↑z:Int)<(↑Y.3:Int)→(0:Nat)<(1:Nat)∧(0:Int)≤(↑z:Int)∧(↑z:Int)<(↑Y.3:Int)∧(0:Nat)<(1:Nat)∧rI ((↑Y.1:Int) - (1:Int))∧(¬((0:Int)≤(Y.sti (↑z:Int).toNat).1∧(Y.sti (↑z:Int).toNat).1≤(↑Y.1:Int) - (1:Int))→(false=true↔okYd Y)∧True)∧(¬¬((0:Int)≤(Y.sti (↑z:Int).toNat).1∧(Y.sti (↑z:Int).toNat).1≤(↑Y.1:Int) - (1:Int))→(0:Nat)<(1:Nat)∧(¬((1:Int)≤(Y.sti (↑z:Int).toNat).2∧(Y.sti (↑z:Int).toNat).2≤(1048576:Int))→(false=true↔okYd Y)∧True)∧(¬¬((1:Int)≤(Y.sti (↑z:Int).toNat).2∧(Y.sti (↑z:Int).toNat).2≤(1048576:Int))→(0:Nat)<(1:Nat)∧(¬(↑(Y.sti (↑z:Int).toNat).3:Int)=(↑Y.1:Int)→(false=true↔okYd Y)∧True)∧(¬¬(↑(Y.sti (↑z:Int).toNat).3:Int)=(↑Y.1:Int)→(0:Nat)<(1:Nat)∧(¬((0:Int)≤(Y.sti
(↑z:Int).toNat).5∧(Y.sti (↑z:Int).toNat).5≤(1000000:Int))→(false=true↔okYd Y)∧True)∧(¬¬((0:Int)≤(Y.sti (↑z:Int).toNat).5∧(Y.sti (↑z:Int).toNat).5≤(1000000:Int))→(0:Nat)<(1:Nat)∧(¬((0:Int)≤(Y.sti (↑z:Int).toNat).6∧(Y.sti (↑z:Int).toNat).6≤(8:Int))→(false=true↔okYd Y)∧True)∧(¬¬((0:Int)≤(Y.sti (↑z:Int).toNat).6∧(Y.sti (↑z:Int).toNat).6≤(8:Int))→((0:Int)<(↑z:Int)→(0:Nat)<(1:Nat)∧(0:Nat)<(1:Nat)∧rI ((↑z:Int) - (1:Int))∧(0:Int)≤(↑z:Int) - (1:Int)∧(↑z:Int) - (1:Int)<(↑Y.3:Int)∧((Y.sti (↑z:Int).toNat).1<(Y.sti ((↑z:Int) - (1:Int)).toNat).1→(false=true↔okYd Y)∧True)∧(¬(Y.sti (↑z:Int).toNat).1<(Y.sti ((↑z:Int) - (1:Int)).toNat).1→(ryG2 Y z)∧∀ (zp9_1:Nat × Nat),(zp9_1.2≤Y.1∧∀ (i_2:Nat),i_2<zp9_1.2→okOut (Y.sti zp9_1.fst)
i_2)∧zp9_1.1=(↑z:Int).toNat→(ryG0 Y z zp9_1)∧(ryG4 Y z zp9_1)))∧(¬(0:Int)<(↑z:Int)→(ryG2 Y z)∧∀ (zp9_1:Nat × Nat),(zp9_1.2≤Y.1∧∀ (i_2:Nat),i_2<zp9_1.2→okOut (Y.sti zp9_1.fst) i_2)∧zp9_1.1=(↑z:Int).toNat→(ryG0 Y z zp9_1)∧(ryG4 Y z zp9_1))))))))∧(¬(↑z:Int)<(↑Y.3:Int)→(∃ (z:Nat),(z≤Y.5∧∀ (i_1:Nat),i_1<z→okSal (↑Y.g:Int) (Y.sal i_1))∧rE (0:Nat)∧rE (0:Nat)∧rE (↑Y.1:Int)∧(0:Int)=(↑z:Int)∧Y.1=Y.1∧(∀ (i:Nat),i<Y.1→rE ((i6 (Y.st i)).den)∧True)∧Y.3=Y.3∧(ryG1 Y)∧Y.5=Y.5∧(ryG3 Y)∧True)∧∀ (z:Nat),(z≤Y.5∧∀ (i_1:Nat),i_1<z→okSal (↑Y.g:Int) (Y.sal i_1))→(0:Nat)<(1:Nat)∧((↑z:Int)<(↑Y.5:Int)→(0:Nat)<(1:Nat)∧(0:Int)≤(↑z:Int)∧(↑z:Int)<(↑Y.5:Int)∧(0:Nat)<(1:Nat)∧rI ((↑Y.1:Int) - (1:Int))∧(¬((0:Int)≤(Y.sal (↑z :
Int).toNat).1∧(Y.sal (↑z:Int).toNat).1≤(↑Y.1:Int) - (1:Int))→(false=true↔okYd Y)∧True)∧(¬¬((0:Int)≤(Y.sal (↑z:Int).toNat).1∧(Y.sal (↑z:Int).toNat).1≤(↑Y.1:Int) - (1:Int))→(0:Nat)<(1:Nat)∧(¬((0:Int)≤(Y.sal (↑z:Int).toNat).2∧(Y.sal (↑z:Int).toNat).2≤(1048576:Int))→(false=true↔okYd Y)∧True)∧(¬¬((0:Int)≤(Y.sal (↑z:Int).toNat).2∧(Y.sal (↑z:Int).toNat).2≤(1048576:Int))→(0:Nat)<(1:Nat)∧(¬((0:Int)≤(Y.sal (↑z:Int).toNat).3∧(Y.sal (↑z:Int).toNat).3≤(1000000:Int))→(false=true↔okYd Y)∧True)∧(¬¬((0:Int)≤(Y.sal (↑z:Int).toNat).3∧(Y.sal (↑z:Int).toNat).3≤(1000000:Int))→rI ((↑z:Int)+(1:Int))∧∃ (z_1:Nat),(z_1≤Y.5∧∀ (i_2:Nat),i_2<z_1→okSal (↑Y.g:Int) (Y.sal i_2))∧Y.5 - z_1<Y.5 - z∧rE (0:Nat)∧rE (0:Nat)∧rE (↑Y.1:Int)∧(↑z:Int)+(1
: Int)=(↑z_1:Int)∧Y.1=Y.1∧(∀ (i:Nat),i<Y.1→rE ((i6 (Y.st i)).den)∧True)∧Y.3=Y.3∧(ryG1 Y)∧Y.5=Y.5∧(ryG3 Y)∧True))))∧(¬(↑z:Int)<(↑Y.5:Int)→(rE true↔okYd Y)∧True))))))):=by kernel_rfl
def lgG0 (Y:Yd):Prop:=(∀ (i:Nat),i<Y.3→rE ((Y.sti i).sv.den)∧True∧True∧(∀ (i_1:Nat),i_1<(Y.sti i).3→True∧True∧True)∧True∧True∧True)
theorem lgG_vc (Y:Yd) (p:Int):lgG Y p =
((0:Nat)<(1:Nat)∧((12:Int)<(↑Y.1:Int)→(rE true↔¬noLg Y p)∧True)∧(¬(12:Int)<(↑Y.1:Int)→(0:Nat)<(1:Nat)∧((10:Int)<(↑Y.3:Int)→(rE true↔¬noLg Y p)∧True)∧(¬(10:Int)<(↑Y.3:Int)→(0:Nat)<(1:Nat)∧((12:Int)<(↑Y.5:Int)→(rE true↔¬noLg Y p)∧True)∧(¬(12:Int)<(↑Y.5:Int)→(∃ (z:Nat),(z≤Y.3∧Y.3≤(10:Nat)∧∀ (i:Nat),i<z→(Y.sti i).3≤(12:Nat))∧p=p∧rE (0:Nat)∧rE (0:Nat)∧(1:Int)=prY Y z∧(0:Int)=(↑z:Int)∧Y.1=Y.1∧(∀ (i:Nat),i<Y.1→rE ((i6 (Y.st i)).den)∧True)∧Y.3=Y.3∧(lgG0 Y)∧Y.5=Y.5∧(∀ (i:Nat),i<Y.5→rE ((Y.sal i).sv.den)∧True∧True∧True∧True)∧True)∧∀ (z:Nat),(z≤Y.3∧Y.3≤(10:Nat)∧∀ (i:Nat),i<z→(Y.sti i).3≤(12:Nat))→(0:Nat)<(1:Nat)∧((↑z:Int)<(↑Y.3:Int)→(0:Nat)<(1:Nat)∧(0:Int)≤(↑z :
Int)∧(↑z:Int)<(↑Y.3:Int)∧((12:Int)<(↑(Y.sti (↑z:Int).toNat).3:Int)→(rE true↔¬noLg Y p)∧True)∧(¬(12:Int)<(↑(Y.sti (↑z:Int).toNat).3:Int)→(0:Nat)<(1:Nat)∧(∀ (i:Nat),i<Y.1→True)∧(∀ (i:Nat),i<Y.3→True∧True∧(∀ (i_1:Nat),i_1<(Y.sti i).3→True∧True∧True)∧True∧True∧True)∧(∀ (i:Nat),i<Y.5→True∧True∧True∧True)∧SV.agg [SV.lst (1:Nat) Y.g fun i=>i6 (Y.st i),SV.lst (5:Nat) Y.m fun i=>(Y.sti i).sv,SV.lst (3:Nat) Y.q fun i=>(Y.sal i).sv]=(ydOf Y.g (fun i=>i6 (Y.st i)) Y.m (fun i=>(Y.sti i).sv) Y.q fun i=>(Y.sal i).sv).sv∧(okYd (ydOf Y.g (fun i=>i6 (Y.st i)) Y.m (fun i=>(Y.sti i).sv) Y.q fun i=>(Y.sal i).sv)→(0:Nat)<(1:Nat)∧(0:Int)≤(↑z:Int)∧(↑z:Int)<(↑Y.3:Int)∧rI ((1:Int)+(Y.sti (↑z:Int).toNat).6)∧rI (prY Y z*((1:Int)+(Y.sti (↑z :
Int).toNat).6))∧rI ((↑z:Int)+(1:Int))∧∃ (z_1:Nat),(z_1≤Y.3∧Y.3≤(10:Nat)∧∀ (i:Nat),i<z_1→(Y.sti i).3≤(12:Nat))∧Y.3 - z_1<Y.3 - z∧p=p∧rE (0:Nat)∧rE (0:Nat)∧prY Y z*((1:Int)+(Y.sti (↑z:Int).toNat).6)=prY Y z_1∧(↑z:Int)+(1:Int)=(↑z_1:Int)∧Y.1=Y.1∧(∀ (i:Nat),i<Y.1→rE ((i6 (Y.st i)).den)∧True)∧Y.3=Y.3∧(lgG0 Y)∧Y.5=Y.5∧(∀ (i:Nat),i<Y.5→rE ((Y.sal i).sv.den)∧True∧True∧True∧True)∧True)∧(¬okYd (ydOf Y.g (fun i=>i6 (Y.st i)) Y.m (fun i=>(Y.sti i).sv) Y.q fun i=>(Y.sal i).sv)→rI ((↑z:Int)+(1:Int))∧∃ (z_1:Nat),(z_1≤Y.3∧Y.3≤(10:Nat)∧∀ (i:Nat),i<z_1→(Y.sti i).3≤(12:Nat))∧Y.3 - z_1<Y.3 - z∧p=p∧rE (0:Nat)∧rE (0:Nat)∧prY Y z=prY Y z_1∧(↑z:Int)+(1:Int)=(↑z_1:Int)∧Y.1=Y.1∧(∀ (i:Nat),i<Y.1→rE ((i6 (Y.st
i)).den)∧True)∧Y.3=Y.3∧(lgG0 Y)∧Y.5=Y.5∧(∀ (i:Nat),i<Y.5→rE ((Y.sal i).sv.den)∧True∧True∧True∧True)∧True)))∧(¬(↑z:Int)<(↑Y.3:Int)→(p<prY Y z↔¬noLg Y p)∧True))))):=by kernel_rfl
end Go.Proofs.Ytlhdlkplgafolaa

set_option maxRecDepth 100000
namespace Go.Proofs.Ytlhdlkplgafolaa
open Go Go.Lg
attribute [local irreducible] funS bodyH
theorem ft_fold (n:Nat) (f:Nat→Tw):(ftOf fun i=>(f i).sv)=f:=rfl
theorem sti_fold (s:Sti):Sti.mk s.inn s.takes s.on s.out s.pay s.most=s:=rfl
theorem sal_fold (s:Sal):Sal.mk s.good s.most s.price=s:=rfl
theorem yd_fold (Y:Yd):(ydOf Y.g (fun i=>i6 (Y.st i)) Y.m (fun i=>(Y.sti i).sv) Y.q (fun i=>(Y.sal i).sv))=Y:=rfl
theorem iOf_fold (f:Nat→Int):(iOf fun i=>i6 (f i))=f:=rfl
theorem stiOf_fold (f:Nat→Sti):(fun i=>stiOf (f i).sv)=f:=rfl
theorem salOf_fold (f:Nat→Sal):(fun i=>salOf (f i).sv)=f:=rfl
end Go.Proofs.Ytlhdlkplgafolaa

set_option maxRecDepth 100000
namespace Go.Proofs.Ytlhdlkplgafolaa
open Go Go.Lg
attribute [local irreducible] funS bodyH
theorem fF {P:Prop} (h:¬ P):(False↔P):=⟨False.elim,h⟩
theorem up1 {P:Nat→Prop} {z:Nat} (h:∀ i,i<z→P i) (hz:P z):∀ i,i<z+1→P i:=fun i hi=>by
 by_cases e:i<z
 ·exact h i e
 ·have:i=z:=by omega
  subst this; exact hz
theorem sk_true (n:Nat) (f:Nat→Int):skG n f:=by
 rw [skG_vc]
 simp only [rI,rE,tt3,tt4,tt5,tt13,tt14,rI,rE,tt3,tt4,tt5,tt13,tt14,and_true,true_and,Nat.zero_lt_one,and_self,implies_true,Int.toNat_natCast,Nat.zero_add,Nat.add_zero,Classical.not_not,iff_self,Bool.false_eq_true,imp_false,and_imp,true_implies,forall_const]
 refine ⟨fun h=>fF fun k=>h ⟨by have:=k.a; omega,by have:=k.b; omega⟩,fun a b=>⟨⟨0,⟨by omega,fun i hi=>by omega⟩,rfl⟩,fun z hz hi=>⟨fun hl=>⟨by omega,hl,fun h=>fF fun k=>h (k.c z (by omega)),fun c d=>⟨by omega,z+1,⟨by omega,up1 hi ⟨c,d⟩⟩,by omega,by omega⟩⟩,fun hl=>?_⟩⟩⟩
 have:z=n:=by omega
 subst this
 exact ⟨fun _=>⟨by omega,by omega,hi⟩,fun _=>trivial⟩
theorem sk_ok:skC.Ok Try.prog:=by
 refine ⟨by kernel_rfl,fun x k hk=>?_⟩
 simp only [skC] at hk
 split at hk
 ·rename_i n f
  obtain ⟨hf,hk⟩:=hk
  have hh:=sk_true n (iOf f)
  unfold skG at hh
  rw [← hf] at hh
  exact ⟨_,plainD (one_cs fr_ok) nilS_x nilS_ic hh trivial,hk⟩
 ·exact hk.elim
theorem sl_true {g:Int} (n:Nat) (f:Nat→Sal) (hg:1≤g∧g≤6):slG g n f:=by
 rw [slG_vc]
 simp only [rI,rE,tt3,tt4,tt5,tt13,tt14,rI,rE,tt3,tt4,tt5,tt13,tt14,and_true,true_and,Nat.zero_lt_one,and_self,implies_true,Int.toNat_natCast,Nat.zero_add,Nat.add_zero,Classical.not_not,iff_self,Bool.false_eq_true,imp_false,and_imp,true_implies,forall_const]
 refine ⟨fun h=>fF fun k=>by have:=k.a; omega,fun a=>⟨⟨0,⟨by omega,fun i hi=>by omega⟩,rfl⟩,fun z hz hi=>⟨fun hl=>⟨by omega,hl,by omega,fun h=>fF fun k=>h ⟨(k.b z (by omega)).g0,(k.b z (by omega)).g1⟩,fun c d=>⟨fun h=>fF fun k=>h ⟨(k.b z (by omega)).m0,(k.b z (by omega)).m1⟩,fun e f=>⟨fun h=>fF fun k=>h ⟨(k.b z (by omega)).p0,(k.b z (by omega)).p1⟩,fun u v=>⟨by omega,z+1,⟨by omega,up1 hi ⟨c,d,e,f,u,v⟩⟩,by omega,by omega⟩⟩⟩⟩,fun hl=>?_⟩⟩⟩
 have:z=n:=by omega
 subst this
 exact ⟨fun _=>⟨by omega,hi⟩,fun _=>trivial⟩
theorem sl_ok:slC.Ok Try.prog:=by
 refine ⟨by kernel_rfl,fun x k hk=>?_⟩
 simp only [slC] at hk
 split at hk
 ·rename_i n f g
  obtain ⟨hf,hg,hk⟩:=hk
  have hh:=sl_true n (fun i=>salOf (f i)) hg
  unfold slG at hh
  rw [← hf] at hh
  exact ⟨_,plainD (one_cs fr_ok) nilS_x nilS_ic hh trivial,hk⟩
 ·exact hk.elim
theorem si_true {g:Int} (s:Sti) (hg:1≤g∧g≤6):siG g s:=by
 rw [siG_vc]
 simp only [siG0,rI,rE,tt3,tt4,tt5,tt13,tt14,rI,rE,tt3,tt4,tt5,tt13,tt14,and_true,true_and,Nat.zero_lt_one,and_self,implies_true,Int.toNat_natCast,Nat.zero_add,Nat.add_zero,Classical.not_not,iff_self,Bool.false_eq_true,imp_false,and_imp,true_implies,forall_const]
 refine ⟨by omega,fun h=>fF fun k=>h ⟨k.i0,k.i1⟩,fun a b=>⟨fun h=>fF fun k=>h ⟨k.t0,k.t1⟩,fun c d=>⟨fun h=>fF fun k=>h k.n,fun e=>⟨⟨0,⟨by omega,fun i hi=>by omega⟩,rfl⟩,fun z hz hi=>⟨fun hl=>⟨by omega,hl,fun h1=>⟨fun h2=>fF fun k=>h2 ((k.o z (by omega)).1 h1),fun h2 h3=>⟨fun h4=>fF fun k=>h4 (k.o z (by omega)).2,fun h4=>⟨by omega,z+1,⟨by omega,up1 hi ⟨fun _=>⟨h2,h3⟩,h4⟩⟩,by omega,by omega⟩⟩⟩,fun h1=>⟨fun h4=>fF fun k=>h4 (k.o z (by omega)).2,fun h4=>⟨by omega,z+1,⟨by omega,up1 hi ⟨fun h=>absurd h h1,h4⟩⟩,by omega,by omega⟩⟩⟩,fun hl=>?_⟩⟩⟩⟩⟩
 have:z=s.on:=by omega
 subst this
 exact ⟨fun u v=>⟨fun w=>⟨a,b,c,d,e,hi,u,v,w.1,w.2⟩,fun k=>⟨k.m0,k.m1⟩⟩,fun h=>fF fun k=>h ⟨k.p0,k.p1⟩⟩
theorem si_ok:siC.Ok Try.prog:=by
 refine ⟨by kernel_rfl,fun x k hk=>?_⟩
 simp only [siC] at hk
 split at hk
 ·rename_i a b n h c d g
  obtain ⟨hf,hg,hk⟩:=hk
  have hh:=si_true ⟨a,b,n,ftOf h,c,d⟩ hg
  unfold siG Sti.sv at hh
  simp only at hh
  rw [← hf] at hh
  exact ⟨_,plainD (two_cs fr_ok vh_ok) nilS_x nilS_ic hh trivial,hk⟩
 ·exact hk.elim
theorem ss_true {g:Int} (n:Nat) (f:Nat→Sti) (hg:1≤g∧g≤6):ssG g n f:=by
 rw [ssG_vc]
 simp only [ssG0,ssG1,rI,rE,tt3,tt4,tt5,tt13,tt14,rI,rE,tt3,tt4,tt5,tt13,tt14,and_true,true_and,Nat.zero_lt_one,and_self,implies_true,Int.toNat_natCast,Nat.zero_add,Nat.add_zero,Classical.not_not,iff_self,Bool.false_eq_true,imp_false,and_imp,true_implies,forall_const,ft_fold,sti_fold]
 refine ⟨fun h=>fF fun k=>by have:=k.a; omega,fun a=>⟨⟨0,⟨by omega,fun i hi=>by omega⟩,rfl⟩,fun z hz hi=>⟨fun hl=>⟨by omega,hl,fun h1=>⟨by omega,by omega,by omega,?_⟩,fun h1=>⟨rfl,hg,fun h2=>fF fun k=>h2 (k.b z (by omega)).2,fun h2=>⟨by omega,z+1,⟨by omega,up1 hi ⟨fun h=>by omega,h2⟩⟩,by omega,by omega⟩⟩⟩,fun hl=>?_⟩⟩⟩
 ·have e:((z:Int) - 1).toNat=z - 1:=by omega
  rw [e]
  exact ⟨fun h=>fF fun k=>by have:=(k.b z (by omega)).1 (by omega); omega,fun h=>⟨rfl,hg,fun h2=>fF fun k=>h2 (k.b z (by omega)).2,fun h2=>⟨by omega,z+1,⟨by omega,up1 hi ⟨fun _=>by omega,h2⟩⟩,by omega,by omega⟩⟩⟩
 ·have:z=n:=by omega
  subst this
  exact ⟨fun _=>⟨by omega,hi⟩,fun _=>trivial⟩
theorem ss_ok:ssC.Ok Try.prog:=by
 refine ⟨by kernel_rfl,fun x k hk=>?_⟩
 simp only [ssC] at hk
 split at hk
 ·rename_i n f g
  obtain ⟨hf,hg,hk⟩:=hk
  have hh:=ss_true n (fun i=>stiOf (f i)) hg
  unfold ssG at hh
  rw [← hf] at hh
  exact ⟨_,plainD (one_cs si_ok) nilS_x nilS_ic hh trivial,hk⟩
 ·exact hk.elim
theorem yd_true (Y:Yd):ydG Y:=by
 rw [ydG_vc]
 simp only [rI,rE,tt3,tt4,tt5,tt13,tt14,rI,rE,tt3,tt4,tt5,tt13,tt14,and_true,true_and,Nat.zero_lt_one,and_self,implies_true,Int.toNat_natCast,Nat.zero_add,Nat.add_zero,Classical.not_not,iff_self,Bool.false_eq_true,imp_false,and_imp,true_implies,forall_const,iOf_fold,stiOf_fold,salOf_fold]
 exact ⟨rfl,fun h1=>⟨rfl,⟨by have:=h1.a; omega,by have:=h1.b; omega⟩,fun h2=>⟨rfl,⟨by have:=h1.a; omega,by have:=h1.b; omega⟩,fun h3=>⟨h1,h2,h3⟩,fun k=>k.l⟩,fun h2=>fF fun k=>h2 k.s⟩,fun h1=>fF fun k=>h1 k.g⟩
theorem ydX_ok {f:FuncId} (hc:callable Try.prog f=true) (h:∀ Y:Yd,Does Try.prog f true (SV.denL [Y.sv]) (SV.dec (okYd Y) (Classical.propDecidable _)).den):(ydC f).Ok Try.prog:=by
 refine ⟨hc,fun x k hk=>?_⟩
 simp only [ydC] at hk
 split at hk
 ·rename_i g st m sti q sal
  obtain ⟨hf,hk⟩:=hk
  refine ⟨_,?_,hk⟩
  rw [hf]; exact h _
 ·exact hk.elim
theorem yd_ok:(ydC 25).Ok Try.prog:=ydX_ok (by kernel_rfl) fun Y=>by
 have hh:=yd_true Y
 unfold ydG at hh
 exact plainD (three_cs sk_ok ss_ok sl_ok) nilS_x nilS_ic hh trivial
theorem ry_true (Y:Yd):ryG Y:=by
 rw [ryG_vc]
 simp only [ryG0,ryG1,ryG2,ryG3,ryG4,rI,rE,tt3,tt4,tt5,tt13,tt14,rI,rE,tt3,tt4,tt5,tt13,tt14,and_true,true_and,Nat.zero_lt_one,and_self,implies_true,Int.toNat_natCast,Nat.zero_add,Nat.add_zero,Classical.not_not,iff_self,Bool.false_eq_true,imp_false,and_imp,true_implies,forall_const]
 refine ⟨fun h=>fF fun k=>h ⟨by have:=k.g.a; omega,by have:=k.g.b; omega⟩,fun a b=>⟨fun h=>fF fun k=>by have:=k.s.a; omega,fun c=>⟨fun h=>fF fun k=>by have:=k.l.a; omega,fun d=>⟨⟨0,⟨by omega,fun i hi=>by omega⟩,rfl⟩,fun z hz hi=>⟨fun hl=>⟨by omega,hl,fun h=>fF fun k=>h (k.g.c z (by omega)),fun u v=>⟨by omega,z+1,⟨by omega,up1 hi ⟨u,v⟩⟩,by omega,by omega⟩⟩,fun hl=>⟨⟨0,⟨by omega,fun i hi=>by omega⟩,rfl⟩,?_⟩⟩⟩⟩⟩⟩
 have ez:z=Y.g:=by omega
 subst ez
 have hg:okStk Y.g Y.st:=⟨by omega,by omega,hi⟩
 intro y hy hj
 refine ⟨fun hl=>⟨by omega,hl,by omega,fun h=>fF fun k=>h ⟨(k.s.b y (by omega)).2.i0,(k.s.b y (by omega)).2.i1⟩,fun e1 e2=>⟨fun h=>fF fun k=>h ⟨(k.s.b y (by omega)).2.t0,(k.s.b y (by omega)).2.t1⟩,fun e3 e4=>⟨fun h=>fF fun k=>h (k.s.b y (by omega)).2.n,fun e5=>⟨fun h=>fF fun k=>h ⟨(k.s.b y (by omega)).2.p0,(k.s.b y (by omega)).2.p1⟩,fun e6 e7=>⟨fun h=>fF fun k=>h ⟨(k.s.b y (by omega)).2.m0,(k.s.b y (by omega)).2.m1⟩,fun e8 e9=>?_⟩⟩⟩⟩⟩,fun hl=>⟨⟨0,⟨by omega,fun i hi=>by omega⟩,rfl⟩,fun x hx hk=>⟨fun hl2=>⟨by omega,hl2,by omega,fun h=>fF fun k=>h ⟨(k.l.b x (by omega)).g0,(k.l.b x (by omega)).g1⟩,fun u1 u2=>⟨fun h=>fF fun k=>h ⟨(k.l.b x (by omega)).m0,(k.l.b x (by omega)).m1⟩,fun u3 u4=>⟨fun h=>fF fun k=>h ⟨(k.l.b x (by omega)).p0,(k.l.b x (by omega)).p1⟩,fun u5 u6=>⟨by omega,x+1,⟨by omega,up1 hk ⟨u1,u2,u3,u4,u5,u6⟩⟩,by omega,by omega⟩⟩⟩⟩,fun hl2=>?_⟩⟩⟩
 ·have inner:∀ (ho:0<y→(Y.sti (y - 1)).inn≤(Y.sti y).inn) (p:Nat × Nat),p.2≤Y.g→(∀ i,i<p.2→okOut (Y.sti p.1) i)→p.1=y→((p.2:Int)<Y.g→0≤(p.2:Int)∧(p.2:Int)<(Y.sti p.1).on∧(¬ okSp 1048576 ((Y.sti p.1).out p.2).lo ((Y.sti p.1).out p.2).hi→(False↔okYd Y))∧(okSp 1048576 ((Y.sti p.1).out p.2).lo ((Y.sti p.1).out p.2).hi→((p.2:Int)≤(Y.sti p.1).inn→0≤(p.2:Int)∧(p.2:Int)<(Y.sti p.1).on∧(¬(((Y.sti p.1).out p.2).lo=0∧((Y.sti p.1).out p.2).hi=0)→(False↔okYd Y))∧(((Y.sti p.1).out p.2).lo=0→((Y.sti p.1).out p.2).hi=0→(-9223372036854775808≤(p.2:Int)+1∧(p.2:Int)+1≤9223372036854775807)∧((((p.2:Int)+1).toNat≤Y.g∧∀ i,i<((p.2:Int)+1).toNat→okOut (Y.sti p.1) i)∧p.1=y)∧Y.g - ((p.2:Int)+1).toNat<Y.g - p.2∧(p.2:Int)+1=((((p.2:Int)+1).toNat:Nat):Int)))∧(¬ (p.2:Int)≤(Y.sti p.1).inn→(-9223372036854775808≤(p.2:Int)+1∧(p.2:Int)+1≤9223372036854775807)∧((((p.2:Int)+1).toNat≤Y.g∧∀ i,i<((p.2:Int)+1).toNat→okOut (Y.sti p.1) i)∧p.1=y)∧Y.g - ((p.2:Int)+1).toNat<Y.g - p.2∧(p.2:Int)+1=((((p.2:Int)+1).toNat:Nat):Int)))) ∧
    (¬ (p.2:Int)<Y.g→(-9223372036854775808≤(p.1:Int)+1∧(p.1:Int)+1≤9223372036854775807)∧∃ z_2:Nat,(z_2≤Y.m∧∀ i,i<z_2→okPos Y.g Y.sti i)∧Y.m - z_2<Y.m - y∧(p.1:Int)+1=z_2):=by
   rintro ho ⟨p1,p2⟩ h1 h2 h3
   simp only at h1 h2 h3 ⊢
   subst h3
   have e:((p2:Int)+1).toNat=p2+1:=by omega
   rw [e]
   refine ⟨fun hl2=>⟨by omega,by omega,fun h=>fF fun k=>h ((k.s.b p1 (by omega)).2.o p2 (by omega)).2,fun h4=>⟨fun h5=>⟨by omega,by omega,fun h=>fF fun k=>h (((k.s.b p1 (by omega)).2.o p2 (by omega)).1 h5),fun h6 h7=>⟨by omega,⟨⟨by omega,up1 h2 ⟨fun _=>⟨h6,h7⟩,h4⟩⟩,rfl⟩,by omega,by omega⟩⟩,fun h5=>⟨by omega,⟨⟨by omega,up1 h2 ⟨fun h=>absurd h h5,h4⟩⟩,rfl⟩,by omega,by omega⟩⟩⟩,fun hl2=>⟨by omega,p1+1,⟨by omega,up1 hj ⟨ho,e1,e2,e3,e4,e5,fun k hk=>h2 k (by omega),e6,e7,e8,e9⟩⟩,by omega,by omega⟩⟩
  have e:((y:Int) - 1).toNat=y - 1:=by omega
  rw [e]
  exact ⟨fun h=>⟨by omega,by omega,by omega,fun h2=>fF fun k=>by have:=(k.s.b y (by omega)).1 (by omega); omega,fun h2=>⟨⟨⟨by omega,fun i hi=>by omega⟩,rfl⟩,inner fun _=>by omega⟩⟩,fun h=>⟨⟨⟨by omega,fun i hi=>by omega⟩,rfl⟩,inner fun h=>by omega⟩⟩
 ·have ey:y=Y.m:=by omega
  have ex:x=Y.q:=by omega
  subst ey ex
  exact ⟨fun _=>⟨hg,⟨by omega,hj⟩,⟨by omega,hk⟩⟩,fun _=>trivial⟩
theorem ry_ok:(ydC 21).Ok Try.prog:=ydX_ok (by kernel_rfl) fun Y=>by
 have hh:=ry_true Y
 unfold ryG at hh
 exact plainD (two_cs rfr_ok rvh_ok) nilS_x nilS_ic hh trivial
theorem prJ_bd {f:Nat→Sti} {g:Int} {m:Nat} (h:∀ i,i<m→okSti g (f i)):∀ k,k≤m→0≤prJ f k∧prJ f k≤9 ^ k
 | 0,_=>by simp [prJ]
 | k+1,hk=>by
  have h1:=prJ_bd h k (by omega)
  have h2:=h k (by omega)
  have h3:=h2.m0
  have h4:=h2.m1
  show 0≤prJ f k*(1+(f k).most)∧prJ f k*(1+(f k).most)≤9 ^ (k+1)
  have h5:prJ f k*(1+(f k).most)≤9 ^ k*9:=Int.mul_le_mul h1.2 (by omega) (by omega) (by have:=h1.1; omega)
  rw [Int.pow_succ]
  exact ⟨Int.mul_nonneg h1.1 (by omega),h5⟩
theorem prJ_bd4 {Y:Yd} (h:okYd Y) {k:Nat} (hk:k≤Y.m):0≤prJ Y.sti k∧prJ Y.sti k≤6561:=by
 have h1:=prJ_bd (f:=Y.sti) (g:=Y.g) (m:=Y.m) (fun i hi=>(h.s.b i hi).2) k hk
 have h2:=h.s.a
 refine ⟨h1.1,Int.le_trans h1.2 ?_⟩
 have:k=0∨k=1∨k=2∨k=3∨k=4:=by omega
 rcases this with rfl | rfl | rfl | rfl | rfl <;> decide
theorem lg_true (Y:Yd) (p:Int):lgG Y p:=by
 rw [lgG_vc]
 simp only [lgG0,rI,rE,tt3,tt4,tt5,tt13,tt14,rI,rE,tt3,tt4,tt5,tt13,tt14,and_true,true_and,Nat.zero_lt_one,and_self,implies_true,Int.toNat_natCast,Nat.zero_add,Nat.add_zero,Classical.not_not,iff_self,Bool.false_eq_true,imp_false,and_imp,true_implies,forall_const,yd_fold]
 have tT:∀ {P:Prop},P→(True↔P):=fun h=>⟨fun _=>h,fun _=>trivial⟩
 refine ⟨fun h=>tT fun k=>by have:=k.a; omega,fun a=>⟨fun h=>tT fun k=>by have:=k.b; omega,fun b=>⟨fun h=>tT fun k=>by have:=k.c; omega,fun c=>⟨⟨0,⟨by omega,by omega,fun i hi=>by omega⟩,?_,rfl⟩,fun z hz hm hi=>⟨fun hl=>⟨by omega,hl,fun h=>tT fun k=>by have:=k.d z (by omega); omega,fun h=>⟨rfl,fun hy=>?_,fun hy=>⟨by omega,z+1,⟨by omega,hm,up1 hi (by omega)⟩,by omega,?_,by omega⟩⟩⟩,fun hl=>?_⟩⟩⟩⟩⟩
 ·rw [prY]; split <;> rfl
 ·have h1:=hy.s.b z (by omega)
  have h2:=h1.2.m0
  have h3:=h1.2.m1
  have h4:=prJ_bd4 hy (k:=z+1) (by omega)
  have e:prY Y z*(1+(Y.sti z).most)=prJ Y.sti (z+1):=by rw [prY,if_pos hy]; rfl
  rw [e]
  exact ⟨by omega,hl,by omega,by omega,by omega,z+1,⟨by omega,hm,up1 hi (by omega)⟩,by omega,by rw [prY,if_pos hy],by omega⟩
 ·rw [prY,prY,if_neg hy,if_neg hy]
 ·have ez:z=Y.m:=by omega
  subst ez
  exact ⟨fun h k=>by have:=k.e; omega,fun h=>Int.not_le.1 fun h2=>h ⟨by omega,by omega,by omega,hi,h2⟩⟩
theorem lg_ok:lgC.Ok Try.prog:=by
 refine ⟨by kernel_rfl,fun x k hk=>?_⟩
 simp only [lgC] at hk
 split at hk
 ·rename_i g st m sti q sal p
  obtain ⟨hf,hk⟩:=hk
  have hh:=lg_true (ydOf g st m sti q sal) p
  unfold lgG at hh
  rw [← hf] at hh
  exact ⟨_,plainD (one_cs ry_ok) nilS_x nilS_ic hh trivial,hk⟩
 ·exact hk.elim
end Go.Proofs.Ytlhdlkplgafolaa
