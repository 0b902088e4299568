import Derived.Test.YtbedomoilakcaaaIaIaVIbIcIcVIdIeIeVIf
set_option linter.unusedVariables false
set_option linter.unusedSimpArgs false
namespace Go.Proofs.Ytbedomoilakcaaa
open Go Go.Lg
attribute [local irreducible] bodyH funS
structure Sti where
 inn:Int
 takes:Int
 on:Nat
 out:Nat→Tw
 pay:Int
 most:Int
def Sti.sv (s:Sti):SV:=.agg [i6 s.inn,i6 s.takes,twL s.on s.out,i6 s.pay,i6 s.most]
structure Sal where
 good:Int
 most:Int
 price:Int
def Sal.sv (s:Sal):SV:=.agg [i6 s.good,i6 s.most,i6 s.price]
structure Yd where
 g:Nat
 st:Nat→Int
 m:Nat
 sti:Nat→Sti
 q:Nat
 sal:Nat→Sal
def iL (n:Nat) (f:Nat→Int):SV:=.lst 1 n fun i=>i6 (f i)
def stiL (n:Nat) (f:Nat→Sti):SV:=.lst 5 n fun i=>(f i).sv
def salL (n:Nat) (f:Nat→Sal):SV:=.lst 3 n fun i=>(f i).sv
def Yd.cells (Y:Yd):List SV:=[iL Y.g Y.st,stiL Y.m Y.sti,salL Y.q Y.sal]
def Yd.sv (Y:Yd):SV:=.agg Y.cells
def iOf (f:Nat→SV) (i:Nat):Int:=prI (f i)
def stiOf:SV→Sti
 | .agg [.int _ a,.int _ b,.lst _ n h,.int _ c,.int _ d]=>⟨a,b,n,ftOf h,c,d⟩
 | _=>⟨0,0,0,fun _=>⟨0,0⟩,0,0⟩
def salOf:SV→Sal
 | .agg [.int _ a,.int _ b,.int _ c]=>⟨a,b,c⟩
 | _=>⟨0,0,0⟩
def ydOf (g:Nat) (st:Nat→SV) (m:Nat) (sti:Nat→SV) (q:Nat) (sal:Nat→SV):Yd:=⟨g,iOf st,m,fun i=>stiOf (sti i),q,fun i=>salOf (sal i)⟩
def okOut (s:Sti) (k:Nat):Prop:=((k:Int)≤s.inn→(s.out k).lo=0∧(s.out k).hi=0)∧okSp 1048576 (s.out k).lo (s.out k).hi
structure okSti (g:Int) (s:Sti):Prop where
 i0:0≤s.inn
 i1:s.inn≤g - 1
 t0:1≤s.takes
 t1:s.takes≤1048576
 n:(s.on:Int)=g
 o:∀ k,k<s.on→okOut s k
 p0:0≤s.pay
 p1:s.pay≤1000000
 m0:0≤s.most
 m1:s.most≤8
structure okSal (g:Int) (s:Sal):Prop where
 g0:0≤s.good
 g1:s.good≤g - 1
 m0:0≤s.most
 m1:s.most≤1048576
 p0:0≤s.price
 p1:s.price≤1000000
def okNb (m x:Int):Prop:=0≤x∧x≤m
structure okStk (n:Nat) (f:Nat→Int):Prop where
 a:1≤n
 b:n≤6
 c:∀ i,i<n→okNb 1048576 (f i)
def okPos (g:Int) (f:Nat→Sti) (i:Nat):Prop:=(0<i→(f (i - 1)).inn≤(f i).inn)∧okSti g (f i)
structure okSts (g:Int) (m:Nat) (f:Nat→Sti):Prop where
 a:m≤4
 b:∀ i,i<m→okPos g f i
structure okSls (g:Int) (q:Nat) (f:Nat→Sal):Prop where
 a:q≤6
 b:∀ i,i<q→okSal g (f i)
structure okYd (Y:Yd):Prop where
 g:okStk Y.g Y.st
 s:okSts Y.g Y.m Y.sti
 l:okSls Y.g Y.q Y.sal
noncomputable def cntX (nt s:Nat) (x:SV) (n:Nat) (inv:Nat→Prop) (fr:List (Nat × SV)) (rows:List (Option SRow)):Nat→Option HSpec :=
 oneL 0 (natH (fun k=>k≤n∧inv k) (fun k=>n - k) rows.length (fun k=>mkF nt (fr ++ [(s,x),(s+1,i6 n),(s+2,i6 k)])) (fun _=>mkX rows) fun _=>none)
noncomputable def skG (n:Nat) (f:Nat→Int):Prop:=funH Try.prog (ctrs [frC 50]) noX (ictrs []) (cntX 19 9 (iL n f) n (fun k=>∀ i,i<k→okNb 1048576 (f i)) [] []) noL 40 [iL n f] (.dec (okStk n f) (Classical.propDecidable _))
noncomputable def skC:Ctr:=⟨40,fun args k=>match args with
 | [.lst 1 n f]=>SV.lst 1 n f=iL n (iOf f)∧k (.dec (okStk n (iOf f)) (Classical.propDecidable _))
 | _=>False⟩
noncomputable def slG (g:Int) (n:Nat) (f:Nat→Sal):Prop:=funH Try.prog (ctrs [frC 50]) noX (ictrs []) (cntX 35 10 (salL n f) n (fun k=>∀ i,i<k→okSal g (f i)) [(1,i6 g)] []) noL 42 [salL n f,i6 g] (.dec (okSls g n f) (Classical.propDecidable _))
noncomputable def slC:Ctr:=⟨42,fun args k=>match args with
 | [.lst 3 n f,.int .i64 g]=>SV.lst 3 n f=salL n (fun i=>salOf (f i))∧(1≤g∧g≤6)∧k (.dec (okSls g n (fun i=>salOf (f i))) (Classical.propDecidable _))
 | _=>False⟩
noncomputable def siG (g:Int) (s:Sti):Prop:=funH Try.prog (ctrs [frC 50,vhC 49]) noX (ictrs []) (cntX 55 27 (twL s.on s.out) s.on (fun k=>∀ i,i<k→okOut s i) [(1,i6 g),(2,.ptr 0 0 0)] [vr 5 s.sv]) noL 51 [s.sv,i6 g] (.dec (okSti g s) (Classical.propDecidable _))
noncomputable def siC:Ctr:=⟨51,fun args k=>match args with
 | [.agg [.int .i64 a,.int .i64 b,.lst 2 n h,.int .i64 c,.int .i64 d],.int .i64 g]=>SV.lst 2 n h=twL n (ftOf h)∧(1≤g∧g≤6)∧k (.dec (okSti g ⟨a,b,n,ftOf h,c,d⟩) (Classical.propDecidable _))
 | _=>False⟩
noncomputable def ssG (g:Int) (n:Nat) (f:Nat→Sti):Prop:=funH Try.prog (ctrs [siC]) noX (ictrs []) (cntX 35 10 (stiL n f) n (fun k=>∀ i,i<k→okPos g f i) [(0,stiL n f),(1,i6 g)] []) noL 41 [stiL n f,i6 g] (.dec (okSts g n f) (Classical.propDecidable _))
noncomputable def ssC:Ctr:=⟨41,fun args k=>match args with
 | [.lst 5 n f,.int .i64 g]=>SV.lst 5 n f=stiL n (fun i=>stiOf (f i))∧(1≤g∧g≤6)∧k (.dec (okSts g n (fun i=>stiOf (f i))) (Classical.propDecidable _))
 | _=>False⟩
noncomputable def ydG (Y:Yd):Prop:=funH Try.prog (ctrs [skC,ssC,slC]) noX (ictrs []) noL noL 25 [Y.sv] (.dec (okYd Y) (Classical.propDecidable _))
noncomputable def ydC (f:FuncId):Ctr:=⟨f,fun args k=>match args with
 | [.agg [.lst 1 g st,.lst 5 m sti,.lst 3 q sal]]=>SV.agg [.lst 1 g st,.lst 5 m sti,.lst 3 q sal]=(ydOf g st m sti q sal).sv∧k (.dec (okYd (ydOf g st m sti q sal)) (Classical.propDecidable _))
 | _=>False⟩
theorem rd2 (n s1 s2:Nat) (t:FS) (X:XS) (k:Nat × Nat→Prop) (h:(match sget n t s1,sget n t s2 with
  | .int _ a,.int _ b=>k (a.toNat,b.toNat)
  | _,_=>False)):∃ s,k s:=by
 split at h
 ·exact ⟨_,h⟩
 ·exact h.elim
noncomputable def twH (n s1 s2 nr:Nat) (inv:Nat × Nat→Prop) (μ:Nat × Nat→Nat) (t:Nat × Nat→FS) (X:Nat × Nat→XS):HSpec :=
 { toLSpec:={ σ:=Nat × Nat,inv:=inv,μ:=μ,nr:=nr,ms:=fun _ _=>[],t:=t,X:=X,rd:=fun t X k=>(match sget n t s1,sget n t s2 with
  | .int _ a,.int _ b=>k (a.toNat,b.toNat)
  | _,_=>False),rdOK:=rd2 n s1 s2 },par:=some ⟨fun t _ k=>match sget n t s1 with
  | .int _ a=>k a.toNat
  | _=>False,rdI⟩,kinv:=fun y s=>s.1=y }
noncomputable def ryG (Y:Yd):Prop:=funH Try.prog (ctrs [frC 33,vhC 39]) noX (ictrs [])
 (twoL 0 (natH (fun k=>k≤Y.g∧∀ i,i<k→okNb 1048576 (Y.st i)) (fun k=>Y.g - k) 1 (fun k=>mkF 156 [(1,.ptr 0 0 0),(3,i6 Y.g),(4,i6 k)]) (fun _=>mkX [vr 3 Y.sv]) fun _=>none) <|
 twoL 2 (natH (fun k=>k≤Y.m∧∀ i,i<k→okPos Y.g Y.sti i) (fun k=>Y.m - k) 1 (fun k=>mkF 156 [(1,.ptr 0 0 0),(3,i6 Y.g),(5,i6 k)]) (fun _=>mkX [vr 3 Y.sv]) fun _=>none) <|
 twoL 4 (twH 156 5 7 2 (fun p=>p.2≤Y.g∧∀ i,i<p.2→okOut (Y.sti p.1) i) (fun p=>Y.g - p.2) (fun p=>mkF 156 [(1,.ptr 0 0 0),(3,i6 Y.g),(5,i6 p.1),(6,.ptr 1 0 0),(7,i6 p.2)]) (fun p=>mkX [vr 3 Y.sv,vr 5 (Y.sti p.1).sv])) <|
 oneL 6 (natH (fun k=>k≤Y.q∧∀ i,i<k→okSal Y.g (Y.sal i)) (fun k=>Y.q - k) 1 (fun k=>mkF 156 [(1,.ptr 0 0 0),(3,i6 Y.g),(8,i6 k)]) (fun _=>mkX [vr 3 Y.sv]) fun _=>none)) noL
 21 [Y.sv] (.dec (okYd Y) (Classical.propDecidable _))
noncomputable def prJ (f:Nat→Sti):Nat→Int
 | 0=>1
 | k+1=>prJ f k*(1+(f k).most)
open Classical in
noncomputable def prY (Y:Yd) (k:Nat):Int:=if okYd Y then prJ Y.sti k else 1
structure noLg (Y:Yd) (p:Int):Prop where
 a:Y.g≤12
 b:Y.m≤10
 c:Y.q≤12
 d:∀ i,i<Y.m→(Y.sti i).on≤12
 e:prY Y Y.m≤p
noncomputable def lgG (Y:Yd) (p:Int):Prop:=funH Try.prog (ctrs [ydC 21]) noX (ictrs [])
 (oneL 0 (natH (fun k=>k≤Y.m∧Y.m≤10∧∀ i,i<k→(Y.sti i).on≤12) (fun k=>Y.m - k) 1 (fun k=>mkF 52 [(1,i6 p),(2,.ptr 0 0 0),(5,i6 (prY Y k)),(6,i6 k)]) (fun _=>mkX [vr 3 Y.sv]) fun _=>none)) noL
 9 [Y.sv,i6 p] (.dec (¬ noLg Y p) (Classical.propDecidable _))
noncomputable def lgC:Ctr:=⟨9,fun args k=>match args with
 | [.agg [.lst 1 g st,.lst 5 m sti,.lst 3 q sal],.int .i64 p]=>SV.agg [.lst 1 g st,.lst 5 m sti,.lst 3 q sal]=(ydOf g st m sti q sal).sv∧k (.dec (¬ noLg (ydOf g st m sti q sal) p) (Classical.propDecidable _))
 | _=>False⟩
end Go.Proofs.Ytbedomoilakcaaa

set_option maxRecDepth 100000
namespace Go.Proofs.Ytbedomoilakcaaa
open Go Go.Lg
theorem skG_vc (n:Nat) (f:Nat→Int):skG n f =
((¬((1:Int)≤(↑n:Int)∧(↑n:Int)≤(6:Int))→(false=true↔okStk n f)∧True)∧(¬¬((1:Int)≤(↑n:Int)∧(↑n:Int)≤(6:Int))→(∃ (z:Nat),(z≤n∧∀ (i:Nat),i<z→okNb (1048576:Int) (f i))∧n=n∧(∀ (i:Nat),i<n→rE ((i6 (f i)).den)∧True)∧rE (↑n:Int)∧(0:Int)=(↑z:Int)∧True)∧∀ (z:Nat),(z≤n∧∀ (i:Nat),i<z→okNb (1048576:Int) (f i))→((↑z:Int)<(↑n:Int)→(0:Int)≤(↑z:Int)∧(↑z:Int)<(↑n:Int)∧(¬((0:Int)≤f (↑z:Int).toNat∧f (↑z:Int).toNat≤(1048576:Int))→(false=true↔okStk n f)∧True)∧(¬¬((0:Int)≤f (↑z:Int).toNat∧f (↑z:Int).toNat≤(1048576:Int))→rI ((↑z:Int)+(1:Int))∧∃ (z_1:Nat),(z_1≤n∧∀ (i:Nat),i<z_1→okNb (1048576:Int) (f i))∧n - z_1<n - z∧n=n∧(∀ (i:Nat),i<n→rE ((i6 (f i)).den)∧True)∧rE (↑n:Int)∧(↑z:Int)+(1:Int) =
(↑z_1:Int)∧True))∧(¬(↑z:Int)<(↑n:Int)→(rE true↔okStk n f)∧True))):=by kernel_rfl
theorem slG_vc (g:Int) (n:Nat) (f:Nat→Sal):slG g n f =
(((6:Int)<(↑n:Int)→(false=true↔okSls g n f)∧True)∧(¬(6:Int)<(↑n:Int)→(∃ (z:Nat),(z≤n∧∀ (i:Nat),i<z→okSal g (f i))∧g=g∧n=n∧(∀ (i:Nat),i<n→rE ((f i).sv.den)∧True∧True∧True∧True)∧rE (↑n:Int)∧(0:Int)=(↑z:Int)∧True)∧∀ (z:Nat),(z≤n∧∀ (i:Nat),i<z→okSal g (f i))→((↑z:Int)<(↑n:Int)→(0:Int)≤(↑z:Int)∧(↑z:Int)<(↑n:Int)∧(0:Nat)<(1:Nat)∧rI (g - (1:Int))∧(¬((0:Int)≤(f (↑z:Int).toNat).1∧(f (↑z:Int).toNat).1≤g - (1:Int))→(false=true↔okSls g n f)∧True)∧(¬¬((0:Int)≤(f (↑z:Int).toNat).1∧(f (↑z:Int).toNat).1≤g - (1:Int))→(0:Nat)<(1:Nat)∧(¬((0:Int)≤(f (↑z:Int).toNat).2∧(f (↑z:Int).toNat).2≤(1048576:Int))→(false=true↔okSls g n f)∧True)∧(¬¬((0:Int)≤(f (↑z:Int).toNat).2∧(f (↑z:Int).toNat).2≤(1048576 :
Int))→(0:Nat)<(1:Nat)∧(¬((0:Int)≤(f (↑z:Int).toNat).3∧(f (↑z:Int).toNat).3≤(1000000:Int))→(false=true↔okSls g n f)∧True)∧(¬¬((0:Int)≤(f (↑z:Int).toNat).3∧(f (↑z:Int).toNat).3≤(1000000:Int))→rI ((↑z:Int)+(1:Int))∧∃ (z_1:Nat),(z_1≤n∧∀ (i:Nat),i<z_1→okSal g (f i))∧n - z_1<n - z∧g=g∧n=n∧(∀ (i:Nat),i<n→rE ((f i).sv.den)∧True∧True∧True∧True)∧rE (↑n:Int)∧(↑z:Int)+(1:Int)=(↑z_1:Int)∧True))))∧(¬(↑z:Int)<(↑n:Int)→(rE true↔okSls g n f)∧True))):=by kernel_rfl
def siG0 (g:Int) (s:Sti) (z:Nat):Prop:=(¬¬okSp (1048576:Int) (s.out (↑z:Int).toNat).lo (s.out (↑z:Int).toNat).hi→rI ((↑z:Int)+(1:Int))∧∃ (z_1:Nat),(z_1≤s.3∧∀ (i:Nat),i<z_1→okOut s i)∧s.3 - z_1<s.3 - z∧g=g∧rE (0:Nat)∧rE (0:Nat)∧s.3=s.3∧(∀ (i:Nat),i<s.3→rE ((s.out i).sv.den)∧True∧True∧True)∧rE (↑s.3:Int)∧(↑z:Int)+(1:Int)=(↑z_1:Int)∧s.1=s.1∧s.2=s.2∧s.3=s.3∧(∀ (i:Nat),i<s.3→rE ((s.out i).sv.den)∧True∧True∧True)∧s.5=s.5∧s.6=s.6∧True)
theorem siG_vc (g:Int) (s:Sti):siG g s =
((0:Nat)<(1:Nat)∧rI (g - (1:Int))∧(¬((0:Int)≤s.1∧s.1≤g - (1:Int))→(false=true↔okSti g s)∧True)∧(¬¬((0:Int)≤s.1∧s.1≤g - (1:Int))→(0:Nat)<(1:Nat)∧(¬((1:Int)≤s.2∧s.2≤(1048576:Int))→(false=true↔okSti g s)∧True)∧(¬¬((1:Int)≤s.2∧s.2≤(1048576:Int))→(0:Nat)<(1:Nat)∧(¬(↑s.3:Int)=g→(false=true↔okSti g s)∧True)∧(¬¬(↑s.3:Int)=g→(0:Nat)<(1:Nat)∧(∃ (z:Nat),(z≤s.3∧∀ (i:Nat),i<z→okOut s i)∧g=g∧rE (0:Nat)∧rE (0:Nat)∧s.3=s.3∧(∀ (i:Nat),i<s.3→rE ((s.out i).sv.den)∧True∧True∧True)∧rE (↑s.3:Int)∧(0:Int)=(↑z:Int)∧s.1=s.1∧s.2=s.2∧s.3=s.3∧(∀ (i:Nat),i<s.3→rE ((s.out i).sv.den)∧True∧True∧True)∧s.5=s.5∧s.6=s.6∧True)∧∀ (z:Nat),(z≤s.3∧∀ (i:Nat),i<z→okOut s i)→((↑z:Int)<(↑s.3:Int) →
(0:Int)≤(↑z:Int)∧(↑z:Int)<(↑s.3:Int)∧(0:Nat)<(1:Nat)∧((↑z:Int)≤s.1→(0:Nat)<(1:Nat)∧(¬((s.out (↑z:Int).toNat).1=(0:Int)∧(s.out (↑z:Int).toNat).2=(0:Int))→(false=true↔okSti g s)∧True)∧(¬¬((s.out (↑z:Int).toNat).1=(0:Int)∧(s.out (↑z:Int).toNat).2=(0:Int))→(0:Nat)<(1:Nat)∧(¬okSp (1048576:Int) (s.out (↑z:Int).toNat).lo (s.out (↑z:Int).toNat).hi→(false=true↔okSti g s)∧True)∧(siG0 g s z)))∧(¬(↑z:Int)≤s.1→(0:Nat)<(1:Nat)∧(¬okSp (1048576:Int) (s.out (↑z:Int).toNat).lo (s.out (↑z:Int).toNat).hi→(false=true↔okSti g s)∧True)∧(siG0 g s z)))∧(¬(↑z:Int)<(↑s.3:Int)→(0:Nat)<(1:Nat)∧((0:Int)≤s.5∧s.5≤(1000000:Int)→(0:Nat)<(1:Nat)∧((0:Int)≤s.6∧s.6≤(8:Int)↔okSti g s)∧True)∧(¬((0:Int)≤s.5∧s.5≤(1000000:Int)) →
(false=true↔okSti g s)∧True)))))):=by kernel_rfl
def ssG1 (n:Nat) (f:Nat→Sti):Prop:=(∀ (i:Nat),i<n→rE ((f i).sv.den)∧True∧True∧(∀ (i_1:Nat),i_1<(f i).3→True∧True∧True)∧True∧True∧True)
def ssG0 (g:Int) (n:Nat) (f:Nat→Sti) (z:Nat):Prop:=(¬¬okSti g (Sti.mk (f (↑z:Int).toNat).inn (f (↑z:Int).toNat).takes (f (↑z:Int).toNat).on (ftOf fun i=>((f (↑z:Int).toNat).out i).sv) (f (↑z:Int).toNat).pay (f (↑z:Int).toNat).most)→rI ((↑z:Int)+(1:Int))∧∃ (z_1:Nat),(z_1≤n∧∀ (i:Nat),i<z_1→okPos g f i)∧n - z_1<n - z∧n=n∧(ssG1 n f)∧g=g∧n=n∧(ssG1 n f)∧rE (↑n:Int)∧(↑z:Int)+(1:Int)=(↑z_1:Int)∧True)
theorem ssG_vc (g:Int) (n:Nat) (f:Nat→Sti):ssG g n f =
(((4:Int)<(↑n:Int)→(false=true↔okSts g n f)∧True)∧(¬(4:Int)<(↑n:Int)→(∃ (z:Nat),(z≤n∧∀ (i:Nat),i<z→okPos g f i)∧n=n∧(ssG1 n f)∧g=g∧n=n∧(ssG1 n f)∧rE (↑n:Int)∧(0:Int)=(↑z:Int)∧True)∧∀ (z:Nat),(z≤n∧∀ (i:Nat),i<z→okPos g f i)→((↑z:Int)<(↑n:Int)→(0:Int)≤(↑z:Int)∧(↑z:Int)<(↑n:Int)∧((0:Int)<(↑z:Int)→(0:Nat)<(1:Nat)∧rI ((↑z:Int) - (1:Int))∧(0:Int)≤(↑z:Int) - (1:Int)∧(↑z:Int) - (1:Int)<(↑n:Int)∧((f (↑z:Int).toNat).1<(f ((↑z:Int) - (1:Int)).toNat).1→(false=true↔okSts g n f)∧True)∧(¬(f (↑z:Int).toNat).1<(f ((↑z:Int) - (1:Int)).toNat).1→(0:Nat)<(1:Nat)∧(∀ (i:Nat),i<(f (↑z:Int).toNat).3→True∧True∧True)∧(SV.lst (2:Nat) (f (↑z:Int).toNat).on fun i=>((f (↑z:Int).toNat).out i).sv)=twL (f (↑z :
Int).toNat).on (ftOf fun i=>((f (↑z:Int).toNat).out i).sv)∧((1:Int)≤g∧g≤(6:Int))∧(¬okSti g (Sti.mk (f (↑z:Int).toNat).inn (f (↑z:Int).toNat).takes (f (↑z:Int).toNat).on (ftOf fun i=>((f (↑z:Int).toNat).out i).sv) (f (↑z:Int).toNat).pay (f (↑z:Int).toNat).most)→(false=true↔okSts g n f)∧True)∧(ssG0 g n f z)))∧(¬(0:Int)<(↑z:Int)→(0:Nat)<(1:Nat)∧(∀ (i:Nat),i<(f (↑z:Int).toNat).3→True∧True∧True)∧(SV.lst (2:Nat) (f (↑z:Int).toNat).on fun i=>((f (↑z:Int).toNat).out i).sv)=twL (f (↑z:Int).toNat).on (ftOf fun i=>((f (↑z:Int).toNat).out i).sv)∧((1:Int)≤g∧g≤(6:Int))∧(¬okSti g (Sti.mk (f (↑z:Int).toNat).inn (f (↑z:Int).toNat).takes (f (↑z:Int).toNat).on (ftOf fun i=>((f (↑z:Int).toNat).out i).sv) (f (↑z:Int).toNat).pay (f (↑z:Int).toNat).most)→(false=true↔okSts g n f)∧True)
∧ (ssG0 g n f z)))∧(¬(↑z:Int)<(↑n:Int)→(rE true↔okSts g n f)∧True))):=by kernel_rfl
theorem ydG_vc (Y:Yd):ydG Y =
((0:Nat)<(1:Nat)∧(∀ (i:Nat),i<Y.1→True)∧(SV.lst (1:Nat) Y.g fun i=>i6 (Y.st i))=iL Y.g (iOf fun i=>i6 (Y.st i))∧(okStk Y.g (iOf fun i=>i6 (Y.st i))→(0:Nat)<(1:Nat)∧(0:Nat)<(1:Nat)∧(∀ (i:Nat),i<Y.3→True∧True∧(∀ (i_1:Nat),i_1<(Y.sti i).3→True∧True∧True)∧True∧True∧True)∧((SV.lst (5:Nat) Y.m fun i=>(Y.sti i).sv)=stiL Y.m fun i=>stiOf (Y.sti i).sv)∧((1:Int)≤(↑Y.1:Int)∧(↑Y.1:Int)≤(6:Int))∧((okSts (↑Y.g:Int) Y.m fun i=>stiOf (Y.sti i).sv)→(0:Nat)<(1:Nat)∧(0:Nat)<(1:Nat)∧(∀ (i:Nat),i<Y.5→True∧True∧True∧True)∧((SV.lst (3:Nat) Y.q fun i=>(Y.sal i).sv)=salL Y.q fun i=>salOf (Y.sal i).sv)∧((1:Int)≤(↑Y.1:Int)∧(↑Y.1:Int)≤(6:Int))∧((okSls (↑Y.g:Int) Y.q fun i=>salOf (Y.sal i).sv)↔okYd Y)∧True)∧((¬okSts (↑Y.g:Int) Y.m fun i =>
stiOf (Y.sti i).sv)→(false=true↔okYd Y)∧True))∧(¬okStk Y.g (iOf fun i=>i6 (Y.st i))→(false=true↔okYd Y)∧True)):=by kernel_rfl
def ryG1 (Y:Yd):Prop:=(∀ (i:Nat),i<Y.3→rE ((Y.sti i).sv.den)∧True∧True∧(∀ (i_1:Nat),i_1<(Y.sti i).3→True∧True∧True)∧True∧True∧True)
def ryG3 (Y:Yd):Prop:=(∀ (i:Nat),i<Y.5→rE ((Y.sal i).sv.den)∧True∧True∧True∧True)
def ryG0 (Y:Yd) (z:Nat) (zp9_1:Nat × Nat):Prop:=((↑zp9_1.2:Int)<(↑Y.1:Int)→(0:Nat)<(1:Nat)∧(0:Int)≤(↑zp9_1.2:Int)∧(↑zp9_1.2:Int)<(↑(Y.sti zp9_1.fst).3:Int)∧(¬okSp (1048576:Int) ((Y.sti zp9_1.fst).out (↑zp9_1.snd:Int).toNat).lo ((Y.sti zp9_1.fst).out (↑zp9_1.snd:Int).toNat).hi→(false=true↔okYd Y)∧True)∧(¬¬okSp (1048576:Int) ((Y.sti zp9_1.fst).out (↑zp9_1.snd:Int).toNat).lo ((Y.sti zp9_1.fst).out (↑zp9_1.snd:Int).toNat).hi→(0:Nat)<(1:Nat)∧((↑zp9_1.2:Int)≤(Y.sti zp9_1.fst).1→(0:Nat)<(1:Nat)∧(0:Int)≤(↑zp9_1.2:Int)∧(↑zp9_1.2:Int)<(↑(Y.sti zp9_1.fst).3:Int)∧(¬(((Y.sti zp9_1.fst).out (↑zp9_1.snd:Int).toNat).1=(0:Int)∧((Y.sti zp9_1.fst).out (↑zp9_1.snd:Int).toNat).2=(0:Int))→(false=true↔okYd Y)∧True)∧(¬¬(((Y.sti zp9_1.fst).out (↑zp9_1.snd:Int).toNat).1=(0:Int)∧((Y.sti zp9_1.fst).out (↑zp9_1.snd:Int).toNat).2=(0:Int))→rI ((↑zp9_1.2:Int)+(1:Int))∧((((↑zp9_1.2:Int)+(1:Int)).toNat≤Y.1∧∀ (i_2:Nat),i_2<((↑zp9_1.2:Int)+(1:Int)).toNat→okOut (Y.sti (↑zp9_1.fst:Int).toNat) i_2)∧(↑zp9_1.1:Int).toNat=(↑z:Int).toNat)∧Y.1 - ((↑zp9_1.2:Int)+(1:Int)).toNat<Y.1 - zp9_1.2∧rE (0:Nat)∧rE (0:Nat)∧rE (↑Y.1:Int)∧(↑zp9_1.1:Int)=(↑(↑zp9_1.1:Int).toNat:Int)∧rE (0:Nat)∧rE (0:Nat)∧(↑zp9_1.2:Int)+(1:Int)=(↑((↑zp9_1.2:Int)+(1:Int)).toNat:Int)∧Y.1=Y.1∧(∀ (i:Nat),i<Y.1→rE ((i6 (Y.st i)).den)∧True)∧Y.3=Y.3∧(ryG1 Y)∧Y.5=Y.5∧(ryG3 Y)∧(Y.sti zp9_1.fst).1=(Y.sti (↑zp9_1.fst:Int).toNat).1∧(Y.sti zp9_1.fst).2=(Y.sti (↑zp9_1.fst:Int).toNat).2∧(Y.sti zp9_1.fst).3=(Y.sti (↑zp9_1.fst:Int).toNat).3∧(∀ (i_2:Nat),i_2<(Y.sti (↑zp9_1.fst:Int).toNat).3→((Y.sti zp9_1.fst).out i_2).sv.den=((Y.sti (↑zp9_1.fst:Int).toNat).out i_2).sv.den∧True∧True∧True)∧(Y.sti zp9_1.fst).5=(Y.sti (↑zp9_1.fst:Int).toNat).5∧(Y.sti zp9_1.fst).6=(Y.sti (↑zp9_1.fst:Int).toNat).6∧True))∧(¬(↑zp9_1.2:Int)≤(Y.sti zp9_1.fst).1→rI ((↑zp9_1.2:Int)+(1:Int))∧((((↑zp9_1.2:Int)+(1:Int)).toNat≤Y.1∧∀ (i_2:Nat),i_2<((↑zp9_1.2:Int)+(1:Int)).toNat→okOut (Y.sti (↑zp9_1.fst:Int).toNat) i_2)∧(↑zp9_1.1:Int).toNat=(↑z:Int).toNat)∧Y.1 - ((↑zp9_1.2:Int)+(1:Int)).toNat<Y.1 - zp9_1.2∧rE (0:Nat)∧rE (0:Nat)∧rE (↑Y.1:Int)∧(↑zp9_1.1:Int)=(↑(↑zp9_1.1:Int).toNat:Int)∧rE (0:Nat)∧rE (0:Nat)∧(↑zp9_1.2:Int)+(1:Int)=(↑((↑zp9_1.2:Int)+(1:Int)).toNat:Int)∧Y.1=Y.1∧(∀ (i:Nat),i<Y.1→rE ((i6 (Y.st i)).den)∧True)∧Y.3=Y.3∧(ryG1 Y)∧Y.5=Y.5∧(ryG3 Y)∧(Y.sti zp9_1.fst).1=(Y.sti (↑zp9_1.fst:Int).toNat).1∧(Y.sti zp9_1.fst).2=(Y.sti (↑zp9_1.fst:Int).toNat).2∧(Y.sti zp9_1.fst).3=(Y.sti (↑zp9_1.fst:Int).toNat).3∧(∀ (i_2:Nat),i_2<(Y.sti (↑zp9_1.fst:Int).toNat).3→((Y.sti zp9_1.fst).out i_2).sv.den=((Y.sti (↑zp9_1.fst:Int).toNat).out i_2).sv.den∧True∧True∧True)∧(Y.sti zp9_1.fst).5=(Y.sti (↑zp9_1.fst:Int).toNat).5∧(Y.sti zp9_1.fst).6=(Y.sti (↑zp9_1.fst:Int).toNat).6∧True)))
def ryG2 (Y:Yd) (z:Nat):Prop:=((((0:Nat)≤Y.1∧∀ (i_1:Nat),i_1<(0:Nat)→okOut (Y.sti (↑z:Int).toNat) i_1)∧z=(↑z:Int).toNat)∧rE (0:Nat)∧rE (0:Nat)∧rE (↑Y.1:Int)∧rE (↑z:Int)∧rE (0:Nat)∧rE (0:Nat)∧(0:Int)=(↑(0:Nat):Int)∧Y.1=Y.1∧(∀ (i:Nat),i<Y.1→rE ((i6 (Y.st i)).den)∧True)∧Y.3=Y.3∧(ryG1 Y)∧Y.5=Y.5∧(ryG3 Y)∧rE ((Y.sti (↑z:Int).toNat).1)∧rE ((Y.sti (↑z:Int).toNat).2)∧rE ((Y.sti (↑z:Int).toNat).3)∧(∀ (i_1:Nat),i_1<(Y.sti (↑z:Int).toNat).3→rE (((Y.sti (↑z:Int).toNat).out i_1).sv.den)∧True∧True∧True)∧rE ((Y.sti (↑z:Int).toNat).5)∧rE ((Y.sti (↑z:Int).toNat).6)∧True)
def ryG4 (Y:Yd) (z:Nat) (zp9_1:Nat × Nat):Prop:=(¬(↑zp9_1.2:Int)<(↑Y.1:Int)→rI ((↑zp9_1.1:Int)+(1:Int))∧∃ (z_2:Nat),(z_2≤Y.3∧∀ (i_3:Nat),i_3<z_2→okPos (↑Y.g:Int) Y.sti i_3)∧Y.3 - z_2<Y.3 - z∧rE (0:Nat)∧rE (0:Nat)∧rE (↑Y.1:Int)∧(↑zp9_1.1:Int)+(1:Int)=(↑z_2:Int)∧Y.1=Y.1∧(∀ (i:Nat),i<Y.1→rE ((i6 (Y.st i)).den)∧True)∧Y.3=Y.3∧(ryG1 Y)∧Y.5=Y.5∧(ryG3 Y)∧True)
theorem ryG_vc (Y:Yd):ryG Y =
((0:Nat)<(1:Nat)∧(¬((1:Int)≤(↑Y.1:Int)∧(↑Y.1:Int)≤(6:Int))→(false=true↔okYd Y)∧True)∧(¬¬((1:Int)≤(↑Y.1:Int)∧(↑Y.1:Int)≤(6:Int))→(0:Nat)<(1:Nat)∧((4:Int)<(↑Y.3:Int)→(false=true↔okYd Y)∧True)∧(¬(4:Int)<(↑Y.3:Int)→(0:Nat)<(1:Nat)∧((6:Int)<(↑Y.5:Int)→(false=true↔okYd Y)∧True)∧(¬(6:Int)<(↑Y.5:Int)→(∃ (z:Nat),(z≤Y.1∧∀ (i_1:Nat),i_1<z→okNb (1048576:Int) (Y.st i_1))∧rE (0:Nat)∧rE (0:Nat)∧rE (↑Y.1:Int)∧(0:Int)=(↑z:Int)∧Y.1=Y.1∧(∀ (i:Nat),i<Y.1→rE ((i6 (Y.st i)).den)∧True)∧Y.3=Y.3∧(ryG1 Y)∧Y.5=Y.5∧(ryG3 Y)∧True)∧∀ (z:Nat),(z≤Y.1∧∀ (i_1:Nat),i_1<z→okNb (1048576:Int) (Y.st i_1))→((↑z:Int)<(↑Y.1:Int)→(0:Nat)<(1:Nat)∧(0:Int)≤(↑z:Int)∧(↑z:Int)<(↑Y.1:Int)∧(¬((0:Int)≤Y.2 (↑z
: Int).toNat∧Y.2 (↑z:Int).toNat≤(1048576:Int))→(false=true↔okYd Y)∧True)∧(¬¬((0:Int)≤Y.2 (↑z:Int).toNat∧Y.2 (↑z:Int).toNat≤(1048576:Int))→rI ((↑z:Int)+(1:Int))∧∃ (z_1:Nat),(z_1≤Y.1∧∀ (i_2:Nat),i_2<z_1→okNb (1048576:Int) (Y.st i_2))∧Y.1 - z_1<Y.1 - z∧rE (0:Nat)∧rE (0:Nat)∧rE (↑Y.1:Int)∧(↑z:Int)+(1:Int)=(↑z_1:Int)∧Y.1=Y.1∧(∀ (i:Nat),i<Y.1→rE ((i6 (Y.st i)).den)∧True)∧Y.3=Y.3∧(ryG1 Y)∧Y.5=Y.5∧(ryG3 Y)∧True))∧(¬(↑z:Int)<(↑Y.1:Int)→(∃ (z:Nat),(z≤Y.3∧∀ (i_1:Nat),i_1<z→okPos (↑Y.g:Int) Y.sti i_1)∧rE (0:Nat)∧rE (0:Nat)∧rE (↑Y.1:Int)∧(0:Int)=(↑z:Int)∧Y.1=Y.1∧(∀ (i:Nat),i<Y.1→rE ((i6 (Y.st i)).den)∧True)∧Y.3=Y.3∧(ryG1 Y)∧Y.5=Y.5∧(ryG3 Y)∧True)∧∀ (z:Nat),(z≤Y.3∧∀ (i_1:Nat),i_1<z→okPos (↑Y.g :
Int) Y.sti i_1)→(0:Nat)<(1:Nat)∧((↑z:Int)<(↑Y.3:Int)→(0:Nat)<(1:Nat)∧(0:Int)≤(↑z:Int)∧(↑z:Int)<(↑Y.3:Int)∧(0:Nat)<(1:Nat)∧rI ((↑Y.1:Int) - (1:Int))∧(¬((0:Int)≤(Y.sti (↑z:Int).toNat).1∧(Y.sti (↑z:Int).toNat).1≤(↑Y.1:Int) - (1:Int))→(false=true↔okYd Y)∧True)∧(¬¬((0:Int)≤(Y.sti (↑z:Int).toNat).1∧(Y.sti (↑z:Int).toNat).1≤(↑Y.1:Int) - (1:Int))→(0:Nat)<(1:Nat)∧(¬((1:Int)≤(Y.sti (↑z:Int).toNat).2∧(Y.sti (↑z:Int).toNat).2≤(1048576:Int))→(false=true↔okYd Y)∧True)∧(¬¬((1:Int)≤(Y.sti (↑z:Int).toNat).2∧(Y.sti (↑z:Int).toNat).2≤(1048576:Int))→(0:Nat)<(1:Nat)∧(¬(↑(Y.sti (↑z:Int).toNat).3:Int)=(↑Y.1:Int)→(false=true↔okYd Y)∧True)∧(¬¬(↑(Y.sti (↑z:Int).toNat).3:Int)=(↑Y.1:Int)→(0:Nat)<(1:Nat)∧(¬((0:Int)≤(Y.sti
(↑z:Int).toNat).5∧(Y.sti (↑z:Int).toNat).5≤(1000000:Int))→(false=true↔okYd Y)∧True)∧(¬¬((0:Int)≤(Y.sti (↑z:Int).toNat).5∧(Y.sti (↑z:Int).toNat).5≤(1000000:Int))→(0:Nat)<(1:Nat)∧(¬((0:Int)≤(Y.sti (↑z:Int).toNat).6∧(Y.sti (↑z:Int).toNat).6≤(8:Int))→(false=true↔okYd Y)∧True)∧(¬¬((0:Int)≤(Y.sti (↑z:Int).toNat).6∧(Y.sti (↑z:Int).toNat).6≤(8:Int))→((0:Int)<(↑z:Int)→(0:Nat)<(1:Nat)∧(0:Nat)<(1:Nat)∧rI ((↑z:Int) - (1:Int))∧(0:Int)≤(↑z:Int) - (1:Int)∧(↑z:Int) - (1:Int)<(↑Y.3:Int)∧((Y.sti (↑z:Int).toNat).1<(Y.sti ((↑z:Int) - (1:Int)).toNat).1→(false=true↔okYd Y)∧True)∧(¬(Y.sti (↑z:Int).toNat).1<(Y.sti ((↑z:Int) - (1:Int)).toNat).1→(ryG2 Y z)∧∀ (zp9_1:Nat × Nat),(zp9_1.2≤Y.1∧∀ (i_2:Nat),i_2<zp9_1.2→okOut (Y.sti zp9_1.fst)
i_2)∧zp9_1.1=(↑z:Int).toNat→(ryG0 Y z zp9_1)∧(ryG4 Y z zp9_1)))∧(¬(0:Int)<(↑z:Int)→(ryG2 Y z)∧∀ (zp9_1:Nat × Nat),(zp9_1.2≤Y.1∧∀ (i_2:Nat),i_2<zp9_1.2→okOut (Y.sti zp9_1.fst) i_2)∧zp9_1.1=(↑z:Int).toNat→(ryG0 Y z zp9_1)∧(ryG4 Y z zp9_1))))))))∧(¬(↑z:Int)<(↑Y.3:Int)→(∃ (z:Nat),(z≤Y.5∧∀ (i_1:Nat),i_1<z→okSal (↑Y.g:Int) (Y.sal i_1))∧rE (0:Nat)∧rE (0:Nat)∧rE (↑Y.1:Int)∧(0:Int)=(↑z:Int)∧Y.1=Y.1∧(∀ (i:Nat),i<Y.1→rE ((i6 (Y.st i)).den)∧True)∧Y.3=Y.3∧(ryG1 Y)∧Y.5=Y.5∧(ryG3 Y)∧True)∧∀ (z:Nat),(z≤Y.5∧∀ (i_1:Nat),i_1<z→okSal (↑Y.g:Int) (Y.sal i_1))→(0:Nat)<(1:Nat)∧((↑z:Int)<(↑Y.5:Int)→(0:Nat)<(1:Nat)∧(0:Int)≤(↑z:Int)∧(↑z:Int)<(↑Y.5:Int)∧(0:Nat)<(1:Nat)∧rI ((↑Y.1:Int) - (1:Int))∧(¬((0:Int)≤(Y.sal (↑z :
Int).toNat).1∧(Y.sal (↑z:Int).toNat).1≤(↑Y.1:Int) - (1:Int))→(false=true↔okYd Y)∧True)∧(¬¬((0:Int)≤(Y.sal (↑z:Int).toNat).1∧(Y.sal (↑z:Int).toNat).1≤(↑Y.1:Int) - (1:Int))→(0:Nat)<(1:Nat)∧(¬((0:Int)≤(Y.sal (↑z:Int).toNat).2∧(Y.sal (↑z:Int).toNat).2≤(1048576:Int))→(false=true↔okYd Y)∧True)∧(¬¬((0:Int)≤(Y.sal (↑z:Int).toNat).2∧(Y.sal (↑z:Int).toNat).2≤(1048576:Int))→(0:Nat)<(1:Nat)∧(¬((0:Int)≤(Y.sal (↑z:Int).toNat).3∧(Y.sal (↑z:Int).toNat).3≤(1000000:Int))→(false=true↔okYd Y)∧True)∧(¬¬((0:Int)≤(Y.sal (↑z:Int).toNat).3∧(Y.sal (↑z:Int).toNat).3≤(1000000:Int))→rI ((↑z:Int)+(1:Int))∧∃ (z_1:Nat),(z_1≤Y.5∧∀ (i_2:Nat),i_2<z_1→okSal (↑Y.g:Int) (Y.sal i_2))∧Y.5 - z_1<Y.5 - z∧rE (0:Nat)∧rE (0:Nat)∧rE (↑Y.1:Int)∧(↑z:Int)+(1
: Int)=(↑z_1:Int)∧Y.1=Y.1∧(∀ (i:Nat),i<Y.1→rE ((i6 (Y.st i)).den)∧True)∧Y.3=Y.3∧(ryG1 Y)∧Y.5=Y.5∧(ryG3 Y)∧True))))∧(¬(↑z:Int)<(↑Y.5:Int)→(rE true↔okYd Y)∧True))))))):=by kernel_rfl
def lgG0 (Y:Yd):Prop:=(∀ (i:Nat),i<Y.3→rE ((Y.sti i).sv.den)∧True∧True∧(∀ (i_1:Nat),i_1<(Y.sti i).3→True∧True∧True)∧True∧True∧True)
theorem lgG_vc (Y:Yd) (p:Int):lgG Y p =
((0:Nat)<(1:Nat)∧((12:Int)<(↑Y.1:Int)→(rE true↔¬noLg Y p)∧True)∧(¬(12:Int)<(↑Y.1:Int)→(0:Nat)<(1:Nat)∧((10:Int)<(↑Y.3:Int)→(rE true↔¬noLg Y p)∧True)∧(¬(10:Int)<(↑Y.3:Int)→(0:Nat)<(1:Nat)∧((12:Int)<(↑Y.5:Int)→(rE true↔¬noLg Y p)∧True)∧(¬(12:Int)<(↑Y.5:Int)→(∃ (z:Nat),(z≤Y.3∧Y.3≤(10:Nat)∧∀ (i:Nat),i<z→(Y.sti i).3≤(12:Nat))∧p=p∧rE (0:Nat)∧rE (0:Nat)∧(1:Int)=prY Y z∧(0:Int)=(↑z:Int)∧Y.1=Y.1∧(∀ (i:Nat),i<Y.1→rE ((i6 (Y.st i)).den)∧True)∧Y.3=Y.3∧(lgG0 Y)∧Y.5=Y.5∧(∀ (i:Nat),i<Y.5→rE ((Y.sal i).sv.den)∧True∧True∧True∧True)∧True)∧∀ (z:Nat),(z≤Y.3∧Y.3≤(10:Nat)∧∀ (i:Nat),i<z→(Y.sti i).3≤(12:Nat))→(0:Nat)<(1:Nat)∧((↑z:Int)<(↑Y.3:Int)→(0:Nat)<(1:Nat)∧(0:Int)≤(↑z :
Int)∧(↑z:Int)<(↑Y.3:Int)∧((12:Int)<(↑(Y.sti (↑z:Int).toNat).3:Int)→(rE true↔¬noLg Y p)∧True)∧(¬(12:Int)<(↑(Y.sti (↑z:Int).toNat).3:Int)→(0:Nat)<(1:Nat)∧(∀ (i:Nat),i<Y.1→True)∧(∀ (i:Nat),i<Y.3→True∧True∧(∀ (i_1:Nat),i_1<(Y.sti i).3→True∧True∧True)∧True∧True∧True)∧(∀ (i:Nat),i<Y.5→True∧True∧True∧True)∧SV.agg [SV.lst (1:Nat) Y.g fun i=>i6 (Y.st i),SV.lst (5:Nat) Y.m fun i=>(Y.sti i).sv,SV.lst (3:Nat) Y.q fun i=>(Y.sal i).sv]=(ydOf Y.g (fun i=>i6 (Y.st i)) Y.m (fun i=>(Y.sti i).sv) Y.q fun i=>(Y.sal i).sv).sv∧(okYd (ydOf Y.g (fun i=>i6 (Y.st i)) Y.m (fun i=>(Y.sti i).sv) Y.q fun i=>(Y.sal i).sv)→(0:Nat)<(1:Nat)∧(0:Int)≤(↑z:Int)∧(↑z:Int)<(↑Y.3:Int)∧rI ((1:Int)+(Y.sti (↑z:Int).toNat).6)∧rI (prY Y z*((1:Int)+(Y.sti (↑z :
Int).toNat).6))∧rI ((↑z:Int)+(1:Int))∧∃ (z_1:Nat),(z_1≤Y.3∧Y.3≤(10:Nat)∧∀ (i:Nat),i<z_1→(Y.sti i).3≤(12:Nat))∧Y.3 - z_1<Y.3 - z∧p=p∧rE (0:Nat)∧rE (0:Nat)∧prY Y z*((1:Int)+(Y.sti (↑z:Int).toNat).6)=prY Y z_1∧(↑z:Int)+(1:Int)=(↑z_1:Int)∧Y.1=Y.1∧(∀ (i:Nat),i<Y.1→rE ((i6 (Y.st i)).den)∧True)∧Y.3=Y.3∧(lgG0 Y)∧Y.5=Y.5∧(∀ (i:Nat),i<Y.5→rE ((Y.sal i).sv.den)∧True∧True∧True∧True)∧True)∧(¬okYd (ydOf Y.g (fun i=>i6 (Y.st i)) Y.m (fun i=>(Y.sti i).sv) Y.q fun i=>(Y.sal i).sv)→rI ((↑z:Int)+(1:Int))∧∃ (z_1:Nat),(z_1≤Y.3∧Y.3≤(10:Nat)∧∀ (i:Nat),i<z_1→(Y.sti i).3≤(12:Nat))∧Y.3 - z_1<Y.3 - z∧p=p∧rE (0:Nat)∧rE (0:Nat)∧prY Y z=prY Y z_1∧(↑z:Int)+(1:Int)=(↑z_1:Int)∧Y.1=Y.1∧(∀ (i:Nat),i<Y.1→rE ((i6 (Y.st
i)).den)∧True)∧Y.3=Y.3∧(lgG0 Y)∧Y.5=Y.5∧(∀ (i:Nat),i<Y.5→rE ((Y.sal i).sv.den)∧True∧True∧True∧True)∧True)))∧(¬(↑z:Int)<(↑Y.3:Int)→(p<prY Y z↔¬noLg Y p)∧True))))):=by kernel_rfl
end Go.Proofs.Ytbedomoilakcaaa

set_option maxRecDepth 100000
namespace Go.Proofs.Ytbedomoilakcaaa
open Go Go.Lg
attribute [local irreducible] funS bodyH
theorem ft_fold (n:Nat) (f:Nat→Tw):(ftOf fun i=>(f i).sv)=f:=rfl
theorem sti_fold (s:Sti):Sti.mk s.inn s.takes s.on s.out s.pay s.most=s:=rfl
theorem sal_fold (s:Sal):Sal.mk s.good s.most s.price=s:=rfl
theorem yd_fold (Y:Yd):(ydOf Y.g (fun i=>i6 (Y.st i)) Y.m (fun i=>(Y.sti i).sv) Y.q (fun i=>(Y.sal i).sv))=Y:=rfl
theorem iOf_fold (f:Nat→Int):(iOf fun i=>i6 (f i))=f:=rfl
theorem stiOf_fold (f:Nat→Sti):(fun i=>stiOf (f i).sv)=f:=rfl
theorem salOf_fold (f:Nat→Sal):(fun i=>salOf (f i).sv)=f:=rfl
end Go.Proofs.Ytbedomoilakcaaa

set_option maxRecDepth 100000
namespace Go.Proofs.Ytbedomoilakcaaa
open Go Go.Lg
attribute [local irreducible] funS bodyH
theorem fF {P:Prop} (h:¬ P):(False↔P):=⟨False.elim,h⟩
theorem up1 {P:Nat→Prop} {z:Nat} (h:∀ i,i<z→P i) (hz:P z):∀ i,i<z+1→P i:=fun i hi=>by
 by_cases e:i<z
 ·exact h i e
 ·have:i=z:=by omega
  subst this; exact hz
theorem sk_true (n:Nat) (f:Nat→Int):skG n f:=by
 rw [skG_vc]
 simp only [rI,rE,tt3,tt4,tt5,tt13,tt14,rI,rE,tt3,tt4,tt5,tt13,tt14,and_true,true_and,Nat.zero_lt_one,and_self,implies_true,Int.toNat_natCast,Nat.zero_add,Nat.add_zero,Classical.not_not,iff_self,Bool.false_eq_true,imp_false,and_imp,true_implies,forall_const]
 refine ⟨fun h=>fF fun k=>h ⟨by have:=k.a; omega,by have:=k.b; omega⟩,fun a b=>⟨⟨0,⟨by omega,fun i hi=>by omega⟩,rfl⟩,fun z hz hi=>⟨fun hl=>⟨by omega,hl,fun h=>fF fun k=>h (k.c z (by omega)),fun c d=>⟨by omega,z+1,⟨by omega,up1 hi ⟨c,d⟩⟩,by omega,by omega⟩⟩,fun hl=>?_⟩⟩⟩
 have:z=n:=by omega
 subst this
 exact ⟨fun _=>⟨by omega,by omega,hi⟩,fun _=>trivial⟩
theorem sk_ok:skC.Ok Try.prog:=by
 refine ⟨by kernel_rfl,fun x k hk=>?_⟩
 simp only [skC] at hk
 split at hk
 ·rename_i n f
  obtain ⟨hf,hk⟩:=hk
  have hh:=sk_true n (iOf f)
  unfold skG at hh
  rw [← hf] at hh
  exact ⟨_,plainD (one_cs fr_ok) nilS_x nilS_ic hh trivial,hk⟩
 ·exact hk.elim
theorem sl_true {g:Int} (n:Nat) (f:Nat→Sal) (hg:1≤g∧g≤6):slG g n f:=by
 rw [slG_vc]
 simp only [rI,rE,tt3,tt4,tt5,tt13,tt14,rI,rE,tt3,tt4,tt5,tt13,tt14,and_true,true_and,Nat.zero_lt_one,and_self,implies_true,Int.toNat_natCast,Nat.zero_add,Nat.add_zero,Classical.not_not,iff_self,Bool.false_eq_true,imp_false,and_imp,true_implies,forall_const]
 refine ⟨fun h=>fF fun k=>by have:=k.a; omega,fun a=>⟨⟨0,⟨by omega,fun i hi=>by omega⟩,rfl⟩,fun z hz hi=>⟨fun hl=>⟨by omega,hl,by omega,fun h=>fF fun k=>h ⟨(k.b z (by omega)).g0,(k.b z (by omega)).g1⟩,fun c d=>⟨fun h=>fF fun k=>h ⟨(k.b z (by omega)).m0,(k.b z (by omega)).m1⟩,fun e f=>⟨fun h=>fF fun k=>h ⟨(k.b z (by omega)).p0,(k.b z (by omega)).p1⟩,fun u v=>⟨by omega,z+1,⟨by omega,up1 hi ⟨c,d,e,f,u,v⟩⟩,by omega,by omega⟩⟩⟩⟩,fun hl=>?_⟩⟩⟩
 have:z=n:=by omega
 subst this
 exact ⟨fun _=>⟨by omega,hi⟩,fun _=>trivial⟩
theorem sl_ok:slC.Ok Try.prog:=by
 refine ⟨by kernel_rfl,fun x k hk=>?_⟩
 simp only [slC] at hk
 split at hk
 ·rename_i n f g
  obtain ⟨hf,hg,hk⟩:=hk
  have hh:=sl_true n (fun i=>salOf (f i)) hg
  unfold slG at hh
  rw [← hf] at hh
  exact ⟨_,plainD (one_cs fr_ok) nilS_x nilS_ic hh trivial,hk⟩
 ·exact hk.elim
theorem si_true {g:Int} (s:Sti) (hg:1≤g∧g≤6):siG g s:=by
 rw [siG_vc]
 simp only [siG0,rI,rE,tt3,tt4,tt5,tt13,tt14,rI,rE,tt3,tt4,tt5,tt13,tt14,and_true,true_and,Nat.zero_lt_one,and_self,implies_true,Int.toNat_natCast,Nat.zero_add,Nat.add_zero,Classical.not_not,iff_self,Bool.false_eq_true,imp_false,and_imp,true_implies,forall_const]
 refine ⟨by omega,fun h=>fF fun k=>h ⟨k.i0,k.i1⟩,fun a b=>⟨fun h=>fF fun k=>h ⟨k.t0,k.t1⟩,fun c d=>⟨fun h=>fF fun k=>h k.n,fun e=>⟨⟨0,⟨by omega,fun i hi=>by omega⟩,rfl⟩,fun z hz hi=>⟨fun hl=>⟨by omega,hl,fun h1=>⟨fun h2=>fF fun k=>h2 ((k.o z (by omega)).1 h1),fun h2 h3=>⟨fun h4=>fF fun k=>h4 (k.o z (by omega)).2,fun h4=>⟨by omega,z+1,⟨by omega,up1 hi ⟨fun _=>⟨h2,h3⟩,h4⟩⟩,by omega,by omega⟩⟩⟩,fun h1=>⟨fun h4=>fF fun k=>h4 (k.o z (by omega)).2,fun h4=>⟨by omega,z+1,⟨by omega,up1 hi ⟨fun h=>absurd h h1,h4⟩⟩,by omega,by omega⟩⟩⟩,fun hl=>?_⟩⟩⟩⟩⟩
 have:z=s.on:=by omega
 subst this
 exact ⟨fun u v=>⟨fun w=>⟨a,b,c,d,e,hi,u,v,w.1,w.2⟩,fun k=>⟨k.m0,k.m1⟩⟩,fun h=>fF fun k=>h ⟨k.p0,k.p1⟩⟩
theorem si_ok:siC.Ok Try.prog:=by
 refine ⟨by kernel_rfl,fun x k hk=>?_⟩
 simp only [siC] at hk
 split at hk
 ·rename_i a b n h c d g
  obtain ⟨hf,hg,hk⟩:=hk
  have hh:=si_true ⟨a,b,n,ftOf h,c,d⟩ hg
  unfold siG Sti.sv at hh
  simp only at hh
  rw [← hf] at hh
  exact ⟨_,plainD (two_cs fr_ok vh_ok) nilS_x nilS_ic hh trivial,hk⟩
 ·exact hk.elim
theorem ss_true {g:Int} (n:Nat) (f:Nat→Sti) (hg:1≤g∧g≤6):ssG g n f:=by
 rw [ssG_vc]
 simp only [ssG0,ssG1,rI,rE,tt3,tt4,tt5,tt13,tt14,rI,rE,tt3,tt4,tt5,tt13,tt14,and_true,true_and,Nat.zero_lt_one,and_self,implies_true,Int.toNat_natCast,Nat.zero_add,Nat.add_zero,Classical.not_not,iff_self,Bool.false_eq_true,imp_false,and_imp,true_implies,forall_const,ft_fold,sti_fold]
 refine ⟨fun h=>fF fun k=>by have:=k.a; omega,fun a=>⟨⟨0,⟨by omega,fun i hi=>by omega⟩,rfl⟩,fun z hz hi=>⟨fun hl=>⟨by omega,hl,fun h1=>⟨by omega,by omega,by omega,?_⟩,fun h1=>⟨rfl,hg,fun h2=>fF fun k=>h2 (k.b z (by omega)).2,fun h2=>⟨by omega,z+1,⟨by omega,up1 hi ⟨fun h=>by omega,h2⟩⟩,by omega,by omega⟩⟩⟩,fun hl=>?_⟩⟩⟩
 ·have e:((z:Int) - 1).toNat=z - 1:=by omega
  rw [e]
  exact ⟨fun h=>fF fun k=>by have:=(k.b z (by omega)).1 (by omega); omega,fun h=>⟨rfl,hg,fun h2=>fF fun k=>h2 (k.b z (by omega)).2,fun h2=>⟨by omega,z+1,⟨by omega,up1 hi ⟨fun _=>by omega,h2⟩⟩,by omega,by omega⟩⟩⟩
 ·have:z=n:=by omega
  subst this
  exact ⟨fun _=>⟨by omega,hi⟩,fun _=>trivial⟩
theorem ss_ok:ssC.Ok Try.prog:=by
 refine ⟨by kernel_rfl,fun x k hk=>?_⟩
 simp only [ssC] at hk
 split at hk
 ·rename_i n f g
  obtain ⟨hf,hg,hk⟩:=hk
  have hh:=ss_true n (fun i=>stiOf (f i)) hg
  unfold ssG at hh
  rw [← hf] at hh
  exact ⟨_,plainD (one_cs si_ok) nilS_x nilS_ic hh trivial,hk⟩
 ·exact hk.elim
theorem yd_true (Y:Yd):ydG Y:=by
 rw [ydG_vc]
 simp only [rI,rE,tt3,tt4,tt5,tt13,tt14,rI,rE,tt3,tt4,tt5,tt13,tt14,and_true,true_and,Nat.zero_lt_one,and_self,implies_true,Int.toNat_natCast,Nat.zero_add,Nat.add_zero,Classical.not_not,iff_self,Bool.false_eq_true,imp_false,and_imp,true_implies,forall_const,iOf_fold,stiOf_fold,salOf_fold]
 exact ⟨rfl,fun h1=>⟨rfl,⟨by have:=h1.a; omega,by have:=h1.b; omega⟩,fun h2=>⟨rfl,⟨by have:=h1.a; omega,by have:=h1.b; omega⟩,fun h3=>⟨h1,h2,h3⟩,fun k=>k.l⟩,fun h2=>fF fun k=>h2 k.s⟩,fun h1=>fF fun k=>h1 k.g⟩
theorem ydX_ok {f:FuncId} (hc:callable Try.prog f=true) (h:∀ Y:Yd,Does Try.prog f true (SV.denL [Y.sv]) (SV.dec (okYd Y) (Classical.propDecidable _)).den):(ydC f).Ok Try.prog:=by
 refine ⟨hc,fun x k hk=>?_⟩
 simp only [ydC] at hk
 split at hk
 ·rename_i g st m sti q sal
  obtain ⟨hf,hk⟩:=hk
  refine ⟨_,?_,hk⟩
  rw [hf]; exact h _
 ·exact hk.elim
theorem yd_ok:(ydC 25).Ok Try.prog:=ydX_ok (by kernel_rfl) fun Y=>by
 have hh:=yd_true Y
 unfold ydG at hh
 exact plainD (three_cs sk_ok ss_ok sl_ok) nilS_x nilS_ic hh trivial
theorem ry_true (Y:Yd):ryG Y:=by
 rw [ryG_vc]
 simp only [ryG0,ryG1,ryG2,ryG3,ryG4,rI,rE,tt3,tt4,tt5,tt13,tt14,rI,rE,tt3,tt4,tt5,tt13,tt14,and_true,true_and,Nat.zero_lt_one,and_self,implies_true,Int.toNat_natCast,Nat.zero_add,Nat.add_zero,Classical.not_not,iff_self,Bool.false_eq_true,imp_false,and_imp,true_implies,forall_const]
 refine ⟨fun h=>fF fun k=>h ⟨by have:=k.g.a; omega,by have:=k.g.b; omega⟩,fun a b=>⟨fun h=>fF fun k=>by have:=k.s.a; omega,fun c=>⟨fun h=>fF fun k=>by have:=k.l.a; omega,fun d=>⟨⟨0,⟨by omega,fun i hi=>by omega⟩,rfl⟩,fun z hz hi=>⟨fun hl=>⟨by omega,hl,fun h=>fF fun k=>h (k.g.c z (by omega)),fun u v=>⟨by omega,z+1,⟨by omega,up1 hi ⟨u,v⟩⟩,by omega,by omega⟩⟩,fun hl=>⟨⟨0,⟨by omega,fun i hi=>by omega⟩,rfl⟩,?_⟩⟩⟩⟩⟩⟩
 have ez:z=Y.g:=by omega
 subst ez
 have hg:okStk Y.g Y.st:=⟨by omega,by omega,hi⟩
 intro y hy hj
 refine ⟨fun hl=>⟨by omega,hl,by omega,fun h=>fF fun k=>h ⟨(k.s.b y (by omega)).2.i0,(k.s.b y (by omega)).2.i1⟩,fun e1 e2=>⟨fun h=>fF fun k=>h ⟨(k.s.b y (by omega)).2.t0,(k.s.b y (by omega)).2.t1⟩,fun e3 e4=>⟨fun h=>fF fun k=>h (k.s.b y (by omega)).2.n,fun e5=>⟨fun h=>fF fun k=>h ⟨(k.s.b y (by omega)).2.p0,(k.s.b y (by omega)).2.p1⟩,fun e6 e7=>⟨fun h=>fF fun k=>h ⟨(k.s.b y (by omega)).2.m0,(k.s.b y (by omega)).2.m1⟩,fun e8 e9=>?_⟩⟩⟩⟩⟩,fun hl=>⟨⟨0,⟨by omega,fun i hi=>by omega⟩,rfl⟩,fun x hx hk=>⟨fun hl2=>⟨by omega,hl2,by omega,fun h=>fF fun k=>h ⟨(k.l.b x (by omega)).g0,(k.l.b x (by omega)).g1⟩,fun u1 u2=>⟨fun h=>fF fun k=>h ⟨(k.l.b x (by omega)).m0,(k.l.b x (by omega)).m1⟩,fun u3 u4=>⟨fun h=>fF fun k=>h ⟨(k.l.b x (by omega)).p0,(k.l.b x (by omega)).p1⟩,fun u5 u6=>⟨by omega,x+1,⟨by omega,up1 hk ⟨u1,u2,u3,u4,u5,u6⟩⟩,by omega,by omega⟩⟩⟩⟩,fun hl2=>?_⟩⟩⟩
 ·have inner:∀ (ho:0<y→(Y.sti (y - 1)).inn≤(Y.sti y).inn) (p:Nat × Nat),p.2≤Y.g→(∀ i,i<p.2→okOut (Y.sti p.1) i)→p.1=y→((p.2:Int)<Y.g→0≤(p.2:Int)∧(p.2:Int)<(Y.sti p.1).on∧(¬ okSp 1048576 ((Y.sti p.1).out p.2).lo ((Y.sti p.1).out p.2).hi→(False↔okYd Y))∧(okSp 1048576 ((Y.sti p.1).out p.2).lo ((Y.sti p.1).out p.2).hi→((p.2:Int)≤(Y.sti p.1).inn→0≤(p.2:Int)∧(p.2:Int)<(Y.sti p.1).on∧(¬(((Y.sti p.1).out p.2).lo=0∧((Y.sti p.1).out p.2).hi=0)→(False↔okYd Y))∧(((Y.sti p.1).out p.2).lo=0→((Y.sti p.1).out p.2).hi=0→(-9223372036854775808≤(p.2:Int)+1∧(p.2:Int)+1≤9223372036854775807)∧((((p.2:Int)+1).toNat≤Y.g∧∀ i,i<((p.2:Int)+1).toNat→okOut (Y.sti p.1) i)∧p.1=y)∧Y.g - ((p.2:Int)+1).toNat<Y.g - p.2∧(p.2:Int)+1=((((p.2:Int)+1).toNat:Nat):Int)))∧(¬ (p.2:Int)≤(Y.sti p.1).inn→(-9223372036854775808≤(p.2:Int)+1∧(p.2:Int)+1≤9223372036854775807)∧((((p.2:Int)+1).toNat≤Y.g∧∀ i,i<((p.2:Int)+1).toNat→okOut (Y.sti p.1) i)∧p.1=y)∧Y.g - ((p.2:Int)+1).toNat<Y.g - p.2∧(p.2:Int)+1=((((p.2:Int)+1).toNat:Nat):Int)))) ∧
    (¬ (p.2:Int)<Y.g→(-9223372036854775808≤(p.1:Int)+1∧(p.1:Int)+1≤9223372036854775807)∧∃ z_2:Nat,(z_2≤Y.m∧∀ i,i<z_2→okPos Y.g Y.sti i)∧Y.m - z_2<Y.m - y∧(p.1:Int)+1=z_2):=by
   rintro ho ⟨p1,p2⟩ h1 h2 h3
   simp only at h1 h2 h3 ⊢
   subst h3
   have e:((p2:Int)+1).toNat=p2+1:=by omega
   rw [e]
   refine ⟨fun hl2=>⟨by omega,by omega,fun h=>fF fun k=>h ((k.s.b p1 (by omega)).2.o p2 (by omega)).2,fun h4=>⟨fun h5=>⟨by omega,by omega,fun h=>fF fun k=>h (((k.s.b p1 (by omega)).2.o p2 (by omega)).1 h5),fun h6 h7=>⟨by omega,⟨⟨by omega,up1 h2 ⟨fun _=>⟨h6,h7⟩,h4⟩⟩,rfl⟩,by omega,by omega⟩⟩,fun h5=>⟨by omega,⟨⟨by omega,up1 h2 ⟨fun h=>absurd h h5,h4⟩⟩,rfl⟩,by omega,by omega⟩⟩⟩,fun hl2=>⟨by omega,p1+1,⟨by omega,up1 hj ⟨ho,e1,e2,e3,e4,e5,fun k hk=>h2 k (by omega),e6,e7,e8,e9⟩⟩,by omega,by omega⟩⟩
  have e:((y:Int) - 1).toNat=y - 1:=by omega
  rw [e]
  exact ⟨fun h=>⟨by omega,by omega,by omega,fun h2=>fF fun k=>by have:=(k.s.b y (by omega)).1 (by omega); omega,fun h2=>⟨⟨⟨by omega,fun i hi=>by omega⟩,rfl⟩,inner fun _=>by omega⟩⟩,fun h=>⟨⟨⟨by omega,fun i hi=>by omega⟩,rfl⟩,inner fun h=>by omega⟩⟩
 ·have ey:y=Y.m:=by omega
  have ex:x=Y.q:=by omega
  subst ey ex
  exact ⟨fun _=>⟨hg,⟨by omega,hj⟩,⟨by omega,hk⟩⟩,fun _=>trivial⟩
theorem ry_ok:(ydC 21).Ok Try.prog:=ydX_ok (by kernel_rfl) fun Y=>by
 have hh:=ry_true Y
 unfold ryG at hh
 exact plainD (two_cs rfr_ok rvh_ok) nilS_x nilS_ic hh trivial
theorem prJ_bd {f:Nat→Sti} {g:Int} {m:Nat} (h:∀ i,i<m→okSti g (f i)):∀ k,k≤m→0≤prJ f k∧prJ f k≤9 ^ k
 | 0,_=>by simp [prJ]
 | k+1,hk=>by
  have h1:=prJ_bd h k (by omega)
  have h2:=h k (by omega)
  have h3:=h2.m0
  have h4:=h2.m1
  show 0≤prJ f k*(1+(f k).most)∧prJ f k*(1+(f k).most)≤9 ^ (k+1)
  have h5:prJ f k*(1+(f k).most)≤9 ^ k*9:=Int.mul_le_mul h1.2 (by omega) (by omega) (by have:=h1.1; omega)
  rw [Int.pow_succ]
  exact ⟨Int.mul_nonneg h1.1 (by omega),h5⟩
theorem prJ_bd4 {Y:Yd} (h:okYd Y) {k:Nat} (hk:k≤Y.m):0≤prJ Y.sti k∧prJ Y.sti k≤6561:=by
 have h1:=prJ_bd (f:=Y.sti) (g:=Y.g) (m:=Y.m) (fun i hi=>(h.s.b i hi).2) k hk
 have h2:=h.s.a
 refine ⟨h1.1,Int.le_trans h1.2 ?_⟩
 have:k=0∨k=1∨k=2∨k=3∨k=4:=by omega
 rcases this with rfl | rfl | rfl | rfl | rfl <;> decide
theorem lg_true (Y:Yd) (p:Int):lgG Y p:=by
 rw [lgG_vc]
 simp only [lgG0,rI,rE,tt3,tt4,tt5,tt13,tt14,rI,rE,tt3,tt4,tt5,tt13,tt14,and_true,true_and,Nat.zero_lt_one,and_self,implies_true,Int.toNat_natCast,Nat.zero_add,Nat.add_zero,Classical.not_not,iff_self,Bool.false_eq_true,imp_false,and_imp,true_implies,forall_const,yd_fold]
 have tT:∀ {P:Prop},P→(True↔P):=fun h=>⟨fun _=>h,fun _=>trivial⟩
 refine ⟨fun h=>tT fun k=>by have:=k.a; omega,fun a=>⟨fun h=>tT fun k=>by have:=k.b; omega,fun b=>⟨fun h=>tT fun k=>by have:=k.c; omega,fun c=>⟨⟨0,⟨by omega,by omega,fun i hi=>by omega⟩,?_,rfl⟩,fun z hz hm hi=>⟨fun hl=>⟨by omega,hl,fun h=>tT fun k=>by have:=k.d z (by omega); omega,fun h=>⟨rfl,fun hy=>?_,fun hy=>⟨by omega,z+1,⟨by omega,hm,up1 hi (by omega)⟩,by omega,?_,by omega⟩⟩⟩,fun hl=>?_⟩⟩⟩⟩⟩
 ·rw [prY]; split <;> rfl
 ·have h1:=hy.s.b z (by omega)
  have h2:=h1.2.m0
  have h3:=h1.2.m1
  have h4:=prJ_bd4 hy (k:=z+1) (by omega)
  have e:prY Y z*(1+(Y.sti z).most)=prJ Y.sti (z+1):=by rw [prY,if_pos hy]; rfl
  rw [e]
  exact ⟨by omega,hl,by omega,by omega,by omega,z+1,⟨by omega,hm,up1 hi (by omega)⟩,by omega,by rw [prY,if_pos hy],by omega⟩
 ·rw [prY,prY,if_neg hy,if_neg hy]
 ·have ez:z=Y.m:=by omega
  subst ez
  exact ⟨fun h k=>by have:=k.e; omega,fun h=>Int.not_le.1 fun h2=>h ⟨by omega,by omega,by omega,hi,h2⟩⟩
theorem lg_ok:lgC.Ok Try.prog:=by
 refine ⟨by kernel_rfl,fun x k hk=>?_⟩
 simp only [lgC] at hk
 split at hk
 ·rename_i g st m sti q sal p
  obtain ⟨hf,hk⟩:=hk
  have hh:=lg_true (ydOf g st m sti q sal) p
  unfold lgG at hh
  rw [← hf] at hh
  exact ⟨_,plainD (one_cs ry_ok) nilS_x nilS_ic hh trivial,hk⟩
 ·exact hk.elim
end Go.Proofs.Ytbedomoilakcaaa

namespace Go.Proofs.Ytbedomoilakcaaa
open Go Go.Lg
attribute [local irreducible] bodyH funS
def gdC (f:Nat→Tw):List SV:=[i6 (f 0).lo,i6 (f 0).hi,i6 (f 1).lo,i6 (f 1).hi,i6 (f 2).lo,i6 (f 2).hi,i6 (f 3).lo,i6 (f 3).hi,i6 (f 4).lo,i6 (f 4).hi,i6 (f 5).lo,i6 (f 5).hi]
def gdV (f:Nat→Tw):SV:=.agg (gdC f)
def mk6 (a0 b0 a1 b1 a2 b2 a3 b3 a4 b4 a5 b5:Int):Nat→Tw
 | 0=>⟨a0,b0⟩
 | 1=>⟨a1,b1⟩
 | 2=>⟨a2,b2⟩
 | 3=>⟨a3,b3⟩
 | 4=>⟨a4,b4⟩
 | 5=>⟨a5,b5⟩
 | _=>⟨0,0⟩
def mk4 (a b c d:Int):Nat→Int
 | 0=>a
 | 1=>b
 | 2=>c
 | 3=>d
 | _=>0
def gdK (v:SV) (k:(Nat→Tw)→Prop):Prop:=match v with
 | .agg [.int .i64 a0,.int .i64 b0,.int .i64 a1,.int .i64 b1,.int .i64 a2,.int .i64 b2,.int .i64 a3,.int .i64 b3,.int .i64 a4,.int .i64 b4,.int .i64 a5,.int .i64 b5]=>k (mk6 a0 b0 a1 b1 a2 b2 a3 b3 a4 b4 a5 b5)
 | _=>False
def zG:Nat→Tw:=fun _=>⟨0,0⟩
def c6 (f:Nat→Tw):Nat→Tw:=mk6 (f 0).lo (f 0).hi (f 1).lo (f 1).hi (f 2).lo (f 2).hi (f 3).lo (f 3).hi (f 4).lo (f 4).hi (f 5).lo (f 5).hi
def adG (A B:Nat→Tw):Nat→Tw:=fun i=>⟨(A i).lo+(B i).lo,(A i).hi+(B i).hi⟩
def bdG (b:Int) (A:Nat→Tw):Prop:=∀ i,i<6→(-b≤(A i).lo∧(A i).lo≤b)∧(-b≤(A i).hi∧(A i).hi≤b)
def exC:Ctr:=⟨47,fun args k=>match args with
 | [.int .i64 n]=>k (.agg [i6 n,i6 n])
 | _=>False⟩
noncomputable def exG (n:Int):Prop:=funH Try.prog (ctrs []) noX (ictrs []) noL noL 47 [i6 n] (.agg [i6 n,i6 n])
def tiC:Ctr:=⟨60,fun args k=>match args with
 | [.agg [.int .i64 a,.int .i64 b],.int .i64 n]=>(rI (n*a)∧rI (n*b))∧k (.agg [i6 (n*a),i6 (n*b)])
 | _=>False⟩
noncomputable def tiG (a b n:Int):Prop:=funH Try.prog (ctrs []) noX (ictrs []) noL noL 60 [.agg [i6 a,i6 b],i6 n] (.agg [i6 (n*a),i6 (n*b)])
def gpC:Ctr:=⟨79,fun args k=>match args with
 | [x,y]=>gdK x fun A=>gdK y fun B=>(bdG 1000000000000 A∧bdG 1000000000000 B)∧k (gdV (adG A B))
 | _=>False⟩
def upG (A B:Nat→Tw) (k:Nat):Nat→Tw:=fun i=>if i<k then adG A B i else A i
noncomputable def gpG (A B:Nat→Tw):Prop:=funH Try.prog (ctrs [plC]) noX (ictrs [])
 (oneL 0 (natH (fun k=>k≤6) (fun k=>6 - k) 3 (fun k=>mkF 21 [(2,.ptr 0 0 0),(3,.ptr 1 0 0),(4,.ptr 2 0 0),(7,gdV B),(8,i6 k)]) (fun k=>mkX [vr 12 (gdV (upG A B k)),vr 12 (gdV B),vr 12 (gdV zG)]) fun _=>none)) noL
 79 [gdV A,gdV B] (gdV (adG A B))
def three (a b c:SV):Nat→SV
 | 0=>a
 | 1=>b
 | _=>c
def sgC:Ctr:=⟨54,fun args k=>match args with
 | [.lst 12 n f]=>n=3∧gdK (f 0) fun A=>gdK (f 1) fun B=>gdK (f 2) fun C=>(bdG 100000000000 A∧bdG 100000000000 B∧bdG 100000000000 C)∧k (gdV (adG (adG (adG zG A) B) C))
 | _=>False⟩
noncomputable def sgG (A B C:Nat→Tw):Prop:=funH Try.prog (ctrs [gpC]) (numX noX) (ictrs []) (oneL 0 (unrH 4)) noL 54 [.lst 12 3 (three (gdV A) (gdV B) (gdV C))] (gdV (adG (adG (adG zG A) B) C))
structure okSt (s:Sti):Prop where
 i0:0≤s.inn
 i1:s.inn≤5
 t0:1≤s.takes
 t1:s.takes≤1048576
 n:s.on≤6
 o:∀ k,k<s.on→okSp 1048576 (s.out k).lo (s.out k).hi
 p0:0≤s.pay
 p1:s.pay≤1000000
def okT (t:Int):Prop:=0≤t∧t≤8
open Classical in
noncomputable def tkG (s:Sti) (t:Int):Nat→Tw:=fun i=>if (i:Int)=s.inn then ⟨(0 - t)*s.takes,(0 - t)*s.takes⟩ else ⟨0,0⟩
open Classical in
noncomputable def mdG (s:Sti) (t:Int) (k:Nat):Nat→Tw:=fun i=>if i<k then ⟨t*(s.out i).lo,t*(s.out i).hi⟩ else ⟨0,0⟩
noncomputable def tbC:Ctr:=⟨55,fun args k=>match args with
 | [.agg [.int .i64 a,.int .i64 b,.lst 2 n h,.int .i64 c,.int .i64 d],.int .i64 t]=>SV.lst 2 n h=twL n (ftOf h)∧okSt ⟨a,b,n,ftOf h,c,d⟩∧okT t∧k (gdV (tkG ⟨a,b,n,ftOf h,c,d⟩ t))
 | _=>False⟩
noncomputable def tbG (s:Sti) (t:Int):Prop:=funH Try.prog (ctrs [exC]) noX (ictrs []) noL noL 55 [s.sv,i6 t] (gdV (tkG s t))
noncomputable def mbC:Ctr:=⟨56,fun args k=>match args with
 | [.agg [.int .i64 a,.int .i64 b,.lst 2 n h,.int .i64 c,.int .i64 d],.int .i64 t]=>SV.lst 2 n h=twL n (ftOf h)∧okSt ⟨a,b,n,ftOf h,c,d⟩∧okT t∧k (gdV (mdG ⟨a,b,n,ftOf h,c,d⟩ t n))
 | _=>False⟩
noncomputable def mbG (s:Sti) (t:Int):Prop:=funH Try.prog (ctrs [tiC]) noX (ictrs [])
 (oneL 0 (natH (fun k=>k≤s.on) (fun k=>s.on - k) 3 (fun k=>mkF 23 [(2,.ptr 0 0 0),(1,i6 t),(4,.ptr 1 0 0),(5,.ptr 2 0 0),(9,twL s.on s.out),(10,i6 s.on),(11,i6 k)]) (fun k=>mkX [vr 5 s.sv,vr 12 (gdV zG),vr 12 (gdV (mdG s t k))]) fun _=>none)) noL
 56 [s.sv,i6 t] (gdV (mdG s t s.on))
structure Crs where
 p:Nat→Int
 l:Nat→Tw
 c:Int
def Crs.cells (c:Crs):List SV:=[i6 (c.p 0),i6 (c.p 1),i6 (c.p 2),i6 (c.p 3),i6 (c.l 0).lo,i6 (c.l 0).hi,i6 (c.l 1).lo,i6 (c.l 1).hi,i6 (c.l 2).lo,i6 (c.l 2).hi,i6 (c.l 3).lo,i6 (c.l 3).hi,i6 (c.l 4).lo,i6 (c.l 4).hi,i6 (c.l 5).lo,i6 (c.l 5).hi,i6 c.c]
def Crs.sv (c:Crs):SV:=.agg c.cells
def crK (v:SV) (k:Crs→Prop):Prop:=match v with
 | .agg [.int .i64 p0,.int .i64 p1,.int .i64 p2,.int .i64 p3,.int .i64 a0,.int .i64 b0,.int .i64 a1,.int .i64 b1,.int .i64 a2,.int .i64 b2,.int .i64 a3,.int .i64 b3,.int .i64 a4,.int .i64 b4,.int .i64 a5,.int .i64 b5,.int .i64 c]=>k ⟨mk4 p0 p1 p2 p3,mk6 a0 b0 a1 b1 a2 b2 a3 b3 a4 b4 a5 b5,c⟩
 | _=>False
def r17 (c:Crs):Crs:=⟨mk4 (c.p 0) (c.p 1) (c.p 2) (c.p 3),c6 c.l,c.c⟩
def e17 (c d:Crs) (r:Prop):Prop:=c.p 0=d.p 0∧c.p 1=d.p 1∧c.p 2=d.p 2∧c.p 3=d.p 3∧(c.l 0).lo=(d.l 0).lo∧(c.l 0).hi=(d.l 0).hi∧(c.l 1).lo=(d.l 1).lo∧(c.l 1).hi=(d.l 1).hi∧(c.l 2).lo=(d.l 2).lo∧(c.l 2).hi=(d.l 2).hi∧(c.l 3).lo=(d.l 3).lo∧(c.l 3).hi=(d.l 3).hi∧(c.l 4).lo=(d.l 4).lo∧(c.l 4).hi=(d.l 4).hi∧(c.l 5).lo=(d.l 5).lo∧(c.l 5).hi=(d.l 5).hi∧c.c=d.c∧r
def zC:Crs:=⟨fun _=>0,zG,0⟩
open Classical in
noncomputable def stC (n:Nat) (st:Nat→Int):Crs:=⟨fun _=>0,fun i=>if i<n then ⟨st i,st i⟩ else ⟨0,0⟩,0⟩
noncomputable def ncG (n:Nat) (st:Nat→Int):Prop:=funH Try.prog (ctrs [exC]) noX (ictrs [])
 (oneL 0 (natH (fun k=>k≤n) (fun k=>n - k) 2 (fun k=>mkF 20 [(2,.ptr 0 0 0),(3,.ptr 1 0 0),(6,iL n st),(7,i6 n),(8,i6 k)]) (fun k=>mkX [vr 17 zC.sv,vr 17 (stC k st).sv]) fun _=>none)) noL
 28 [iL n st] (stC n st).sv
noncomputable def ncC:Ctr:=⟨28,fun args k=>match args with
 | [.lst 1 n f]=>SV.lst 1 n f=iL n (iOf f)∧n≤6∧k (stC n (iOf f)).sv
 | _=>False⟩
def canP (c:Crs) (s:Sti) (t:Int):Prop:=t*s.takes≤(c.l s.inn.toNat).lo
open Classical in
noncomputable def nxC (c:Crs) (at':Int) (s:Sti) (t:Int):Crs:=⟨fun i=>if (i:Int)=at' then t else c.p i,adG (adG (adG zG c.l) (tkG s t)) (mdG s t s.on),c.c+t*s.pay⟩
open Classical in
noncomputable def wiX (c:Crs) (at':Int) (s:Sti) (t:Int):Crs:=if canP c s t then nxC c at' s t else zC
def psX (c:Crs) (a t:Int):Crs:=⟨fun i=>if 0+a.toNat*Nat.succ 0=i then t else c.p i,fun i=>⟨if 0+a.toNat*Nat.succ 0=4+2*i then t else (c.l i).lo,if 0+a.toNat*Nat.succ 0=5+2*i then t else (c.l i).hi⟩,if 0+a.toNat*Nat.succ 0=16 then t else c.c⟩
def bdC (b:Int) (c:Crs):Prop:=bdG b c.l∧(-b≤c.c∧c.c≤b)
noncomputable def wiG (c:Crs) (at':Int) (s:Sti) (t:Int):Prop:=funH Try.prog (ctrs [tbC,mbC,sgC]) noX (ictrs []) noL noL 46 [c.sv,i6 at',s.sv,i6 t] (.tup [(wiX c at' s t).sv,.dec (canP c s t) (Classical.propDecidable _)])
noncomputable def wiC:Ctr:=⟨46,fun args k=>match args with
 | [v,.int .i64 a,.agg [.int .i64 x,.int .i64 b,.lst 2 n h,.int .i64 y,.int .i64 z],.int .i64 t]=>crK v fun c=>SV.lst 2 n h=twL n (ftOf h)∧(0≤a∧a≤3)∧okSt ⟨x,b,n,ftOf h,y,z⟩∧okT t∧bdC 10000000000 c∧k (.tup [(wiX c a ⟨x,b,n,ftOf h,y,z⟩ t).sv,.dec (canP c ⟨x,b,n,ftOf h,y,z⟩ t) (Classical.propDecidable _)])
 | _=>False⟩
end Go.Proofs.Ytbedomoilakcaaa

set_option maxRecDepth 100000
namespace Go.Proofs.Ytbedomoilakcaaa
open Go Go.Lg
theorem exG_vc (n:Int):exG n=((0:Nat)<(1:Nat)∧n=n∧n=n∧True):=by kernel_rfl
theorem tiG_vc (a:Int) (b:Int) (n:Int):tiG a b n=((0:Nat)<(1:Nat)∧((-9223372036854775808:Int)≤n*a∧n*a≤(9223372036854775807:Int))∧(0:Nat)<(1:Nat)∧((-9223372036854775808:Int)≤n*b∧n*b≤(9223372036854775807:Int))∧(0:Nat)<(1:Nat)∧n*a=n*a∧n*b=n*b∧True):=by kernel_rfl
theorem gpG_vc (A:Nat→Tw) (B:Nat→Tw):gpG A B=((0:Nat)<(1:Nat)∧(∃ (z:Nat),z≤(6:Nat)∧rE (0:Nat)∧rE (0:Nat)∧rE (0:Nat)∧rE (0:Nat)∧rE (0:Nat)∧rE (0:Nat)∧rE ((B (0:Nat)).1)∧rE ((B (0:Nat)).2)∧rE ((B (1:Nat)).1)∧rE ((B (1:Nat)).2)∧rE ((B (2:Nat)).1)∧rE ((B (2:Nat)).2)∧rE ((B (3:Nat)).1)∧rE ((B (3:Nat)).2)∧rE ((B (4:Nat)).1)∧rE ((B (4:Nat)).2)∧rE ((B (5:Nat)).1)∧rE ((B (5:Nat)).2)∧(0:Int)=(↑z:Int)∧(A (0:Nat)).1=(upG A B z (0:Nat)).1∧(A (0:Nat)).2=(upG A B z (0:Nat)).2∧(A (1:Nat)).1=(upG A B z (1:Nat)).1∧(A (1:Nat)).2=(upG A B z (1:Nat)).2∧(A (2:Nat)).1=(upG A B z (2:Nat)).1∧(A (2:Nat)).2=(upG A B z (2:Nat)).2∧(A (3:Nat)).1=(upG A B z (3:Nat)).1∧(A (3:Nat)).2=(upG A B z (3:Nat)).2∧(A (4:Nat)).1=(upG A B z (4:Nat)).1∧(A
(4:Nat)).2=(upG A B z (4:Nat)).2∧(A (5:Nat)).1=(upG A B z (5:Nat)).1∧(A (5:Nat)).2=(upG A B z (5:Nat)).2∧rE ((B (0:Nat)).1)∧rE ((B (0:Nat)).2)∧rE ((B (1:Nat)).1)∧rE ((B (1:Nat)).2)∧rE ((B (2:Nat)).1)∧rE ((B (2:Nat)).2)∧rE ((B (3:Nat)).1)∧rE ((B (3:Nat)).2)∧rE ((B (4:Nat)).1)∧rE ((B (4:Nat)).2)∧rE ((B (5:Nat)).1)∧rE ((B (5:Nat)).2)∧rE (0:Int)∧rE (0:Int)∧rE (0:Int)∧rE (0:Int)∧rE (0:Int)∧rE (0:Int)∧rE (0:Int)∧rE (0:Int)∧rE (0:Int)∧rE (0:Int)∧rE (0:Int)∧rE (0:Int)∧True)∧∀ (z:Nat),z≤(6:Nat)→((↑z:Int)<(6:Int)→(0:Int)≤(↑z:Int)∧(↑z:Int)<(↑(6:Nat):Int)∧(↑z:Int).toNat*(2:Nat)+(1:Nat)<(12:Nat)∧(0:Int)≤(↑z:Int)∧(↑z:Int)<(↑(6:Nat):Int)∧(0:Nat)<(1:Nat)∧(0:Nat)+(↑z:Int).toNat*(2:Nat)+(1:Nat) <
(12:Nat)∧(0:Nat)<(1:Nat)∧(rI (cellZ (gdV (upG A B z)).cells ((0:Nat)+(↑z:Int).toNat*Nat.succ (1:Nat))+cellZ (gdC B) ((↑z:Int).toNat*Nat.succ (1:Nat)))∧rI (cellZ (gdV (upG A B z)).cells ((0:Nat)+(↑z:Int).toNat*Nat.succ (1:Nat)+(1:Nat))+cellZ (gdC B) ((↑z:Int).toNat*Nat.succ (1:Nat)+(1:Nat))))∧(0:Int)≤(↑z:Int)∧(↑z:Int)<(↑(6:Nat):Int)∧(0:Nat)+(↑z:Int).toNat*(2:Nat)+(1:Nat)<(12:Nat)∧rI ((↑z:Int)+(1:Int))∧∃ (z_1:Nat),z_1≤(6:Nat)∧(6:Nat) - z_1<(6:Nat) - z∧rE (0:Nat)∧rE (0:Nat)∧rE (0:Nat)∧rE (0:Nat)∧rE (0:Nat)∧rE (0:Nat)∧rE ((B (0:Nat)).1)∧rE ((B (0:Nat)).2)∧rE ((B (1:Nat)).1)∧rE ((B (1:Nat)).2)∧rE ((B (2:Nat)).1)∧rE ((B (2:Nat)).2)∧rE ((B (3:Nat)).1)∧rE ((B (3:Nat)).2)∧rE ((B (4:Nat)).1)∧rE ((B (4:Nat)).2)∧rE ((B
(5:Nat)).1)∧rE ((B (5:Nat)).2)∧(↑z:Int)+(1:Int)=(↑z_1:Int)∧(if (0:Nat)+(↑z:Int).toNat*(2:Nat)+(1:Nat)=(0:Nat) then cellZ (gdV (upG A B z)).cells ((0:Nat)+(↑z:Int).toNat*(2:Nat)+(1:Nat))+cellZ (gdC B) ((↑z:Int).toNat*(2:Nat)+(1:Nat)) else if (0:Nat)+(↑z:Int).toNat*(2:Nat)=(0:Nat) then cellZ (gdV (upG A B z)).cells ((0:Nat)+(↑z:Int).toNat*(2:Nat))+cellZ (gdC B) ((↑z:Int).toNat*(2:Nat)) else (upG A B z (0:Nat)).1)=(upG A B z_1 (0:Nat)).1∧(if (0:Nat)+(↑z:Int).toNat*(2:Nat)+(1:Nat)=(1:Nat) then cellZ (gdV (upG A B z)).cells ((0:Nat)+(↑z:Int).toNat*(2:Nat)+(1:Nat))+cellZ (gdC B) ((↑z:Int).toNat*(2:Nat)+(1:Nat)) else if (0:Nat)+(↑z:Int).toNat*(2:Nat)=(1:Nat) then cellZ (gdV (upG A B z)).cells ((0:Nat)+(↑z:Int).toNat*(2:Nat)) +
cellZ (gdC B) ((↑z:Int).toNat*(2:Nat)) else (upG A B z (0:Nat)).2)=(upG A B z_1 (0:Nat)).2∧(if (0:Nat)+(↑z:Int).toNat*(2:Nat)+(1:Nat)=(2:Nat) then cellZ (gdV (upG A B z)).cells ((0:Nat)+(↑z:Int).toNat*(2:Nat)+(1:Nat))+cellZ (gdC B) ((↑z:Int).toNat*(2:Nat)+(1:Nat)) else if (0:Nat)+(↑z:Int).toNat*(2:Nat)=(2:Nat) then cellZ (gdV (upG A B z)).cells ((0:Nat)+(↑z:Int).toNat*(2:Nat))+cellZ (gdC B) ((↑z:Int).toNat*(2:Nat)) else (upG A B z (1:Nat)).1)=(upG A B z_1 (1:Nat)).1∧(if (0:Nat)+(↑z:Int).toNat*(2:Nat)+(1:Nat)=(3:Nat) then cellZ (gdV (upG A B z)).cells ((0:Nat)+(↑z:Int).toNat*(2:Nat)+(1:Nat))+cellZ (gdC B) ((↑z:Int).toNat*(2:Nat)+(1:Nat)) else if (0:Nat)+(↑z:Int).toNat*(2:Nat)=(3:Nat) then cellZ (gdV (upG A B z)).cells ((0:Nat)+(↑z :
Int).toNat*(2:Nat))+cellZ (gdC B) ((↑z:Int).toNat*(2:Nat)) else (upG A B z (1:Nat)).2)=(upG A B z_1 (1:Nat)).2∧(if (0:Nat)+(↑z:Int).toNat*(2:Nat)+(1:Nat)=(4:Nat) then cellZ (gdV (upG A B z)).cells ((0:Nat)+(↑z:Int).toNat*(2:Nat)+(1:Nat))+cellZ (gdC B) ((↑z:Int).toNat*(2:Nat)+(1:Nat)) else if (0:Nat)+(↑z:Int).toNat*(2:Nat)=(4:Nat) then cellZ (gdV (upG A B z)).cells ((0:Nat)+(↑z:Int).toNat*(2:Nat))+cellZ (gdC B) ((↑z:Int).toNat*(2:Nat)) else (upG A B z (2:Nat)).1)=(upG A B z_1 (2:Nat)).1∧(if (0:Nat)+(↑z:Int).toNat*(2:Nat)+(1:Nat)=(5:Nat) then cellZ (gdV (upG A B z)).cells ((0:Nat)+(↑z:Int).toNat*(2:Nat)+(1:Nat))+cellZ (gdC B) ((↑z:Int).toNat*(2:Nat)+(1:Nat)) else if (0:Nat)+(↑z:Int).toNat*(2:Nat)=(5:Nat) then cellZ (gdV (upG A B z)).cells
((0:Nat)+(↑z:Int).toNat*(2:Nat))+cellZ (gdC B) ((↑z:Int).toNat*(2:Nat)) else (upG A B z (2:Nat)).2)=(upG A B z_1 (2:Nat)).2∧(if (0:Nat)+(↑z:Int).toNat*(2:Nat)+(1:Nat)=(6:Nat) then cellZ (gdV (upG A B z)).cells ((0:Nat)+(↑z:Int).toNat*(2:Nat)+(1:Nat))+cellZ (gdC B) ((↑z:Int).toNat*(2:Nat)+(1:Nat)) else if (0:Nat)+(↑z:Int).toNat*(2:Nat)=(6:Nat) then cellZ (gdV (upG A B z)).cells ((0:Nat)+(↑z:Int).toNat*(2:Nat))+cellZ (gdC B) ((↑z:Int).toNat*(2:Nat)) else (upG A B z (3:Nat)).1)=(upG A B z_1 (3:Nat)).1∧(if (0:Nat)+(↑z:Int).toNat*(2:Nat)+(1:Nat)=(7:Nat) then cellZ (gdV (upG A B z)).cells ((0:Nat)+(↑z:Int).toNat*(2:Nat)+(1:Nat))+cellZ (gdC B) ((↑z:Int).toNat*(2:Nat)+(1:Nat)) else if (0:Nat)+(↑z:Int).toNat*(2:Nat)=(7:Nat) then cellZ
(gdV (upG A B z)).cells ((0:Nat)+(↑z:Int).toNat*(2:Nat))+cellZ (gdC B) ((↑z:Int).toNat*(2:Nat)) else (upG A B z (3:Nat)).2)=(upG A B z_1 (3:Nat)).2∧(if (0:Nat)+(↑z:Int).toNat*(2:Nat)+(1:Nat)=(8:Nat) then cellZ (gdV (upG A B z)).cells ((0:Nat)+(↑z:Int).toNat*(2:Nat)+(1:Nat))+cellZ (gdC B) ((↑z:Int).toNat*(2:Nat)+(1:Nat)) else if (0:Nat)+(↑z:Int).toNat*(2:Nat)=(8:Nat) then cellZ (gdV (upG A B z)).cells ((0:Nat)+(↑z:Int).toNat*(2:Nat))+cellZ (gdC B) ((↑z:Int).toNat*(2:Nat)) else (upG A B z (4:Nat)).1)=(upG A B z_1 (4:Nat)).1∧(if (0:Nat)+(↑z:Int).toNat*(2:Nat)+(1:Nat)=(9:Nat) then cellZ (gdV (upG A B z)).cells ((0:Nat)+(↑z:Int).toNat*(2:Nat)+(1:Nat))+cellZ (gdC B) ((↑z:Int).toNat*(2:Nat)+(1:Nat)) else if (0:Nat)+(↑z:Int).toNat*(2:Nat)
= (9:Nat) then cellZ (gdV (upG A B z)).cells ((0:Nat)+(↑z:Int).toNat*(2:Nat))+cellZ (gdC B) ((↑z:Int).toNat*(2:Nat)) else (upG A B z (4:Nat)).2)=(upG A B z_1 (4:Nat)).2∧(if (0:Nat)+(↑z:Int).toNat*(2:Nat)+(1:Nat)=(10:Nat) then cellZ (gdV (upG A B z)).cells ((0:Nat)+(↑z:Int).toNat*(2:Nat)+(1:Nat))+cellZ (gdC B) ((↑z:Int).toNat*(2:Nat)+(1:Nat)) else if (0:Nat)+(↑z:Int).toNat*(2:Nat)=(10:Nat) then cellZ (gdV (upG A B z)).cells ((0:Nat)+(↑z:Int).toNat*(2:Nat))+cellZ (gdC B) ((↑z:Int).toNat*(2:Nat)) else (upG A B z (5:Nat)).1)=(upG A B z_1 (5:Nat)).1∧(if (0:Nat)+(↑z:Int).toNat*(2:Nat)+(1:Nat)=(11:Nat) then cellZ (gdV (upG A B z)).cells ((0:Nat)+(↑z:Int).toNat*(2:Nat)+(1:Nat))+cellZ (gdC B) ((↑z:Int).toNat*(2:Nat)+(1:Nat)) else if (0:Nat) +
(↑z:Int).toNat*(2:Nat)=(11:Nat) then cellZ (gdV (upG A B z)).cells ((0:Nat)+(↑z:Int).toNat*(2:Nat))+cellZ (gdC B) ((↑z:Int).toNat*(2:Nat)) else (upG A B z (5:Nat)).2)=(upG A B z_1 (5:Nat)).2∧rE ((B (0:Nat)).1)∧rE ((B (0:Nat)).2)∧rE ((B (1:Nat)).1)∧rE ((B (1:Nat)).2)∧rE ((B (2:Nat)).1)∧rE ((B (2:Nat)).2)∧rE ((B (3:Nat)).1)∧rE ((B (3:Nat)).2)∧rE ((B (4:Nat)).1)∧rE ((B (4:Nat)).2)∧rE ((B (5:Nat)).1)∧rE ((B (5:Nat)).2)∧rE (0:Int)∧rE (0:Int)∧rE (0:Int)∧rE (0:Int)∧rE (0:Int)∧rE (0:Int)∧rE (0:Int)∧rE (0:Int)∧rE (0:Int)∧rE (0:Int)∧rE (0:Int)∧rE (0:Int)∧True)∧(¬(↑z:Int)<(6:Int)→(0:Nat)<(1:Nat)∧(0:Nat)<(1:Nat)∧(upG A B z (0:Nat)).1=(A (0:Nat)).1+(B (0:Nat)).1∧(upG A B z (0:Nat)).2=(A (0:Nat)).2+(B (0:Nat)).2∧(upG A B z
(1:Nat)).1=(A (1:Nat)).1+(B (1:Nat)).1∧(upG A B z (1:Nat)).2=(A (1:Nat)).2+(B (1:Nat)).2∧(upG A B z (2:Nat)).1=(A (2:Nat)).1+(B (2:Nat)).1∧(upG A B z (2:Nat)).2=(A (2:Nat)).2+(B (2:Nat)).2∧(upG A B z (3:Nat)).1=(A (3:Nat)).1+(B (3:Nat)).1∧(upG A B z (3:Nat)).2=(A (3:Nat)).2+(B (3:Nat)).2∧(upG A B z (4:Nat)).1=(A (4:Nat)).1+(B (4:Nat)).1∧(upG A B z (4:Nat)).2=(A (4:Nat)).2+(B (4:Nat)).2∧(upG A B z (5:Nat)).1=(A (5:Nat)).1+(B (5:Nat)).1∧(upG A B z (5:Nat)).2=(A (5:Nat)).2+(B (5:Nat)).2∧True)):=by kernel_rfl
theorem sgG_vc (A:Nat→Tw) (B:Nat→Tw) (C:Nat→Tw):sgG A B C=((0:Int)≤Int.ofNat (0:Nat)∧Int.ofNat (0:Nat)<(↑(3:Nat):Int)∧(0:Nat)<(1:Nat)∧(0:Nat)<(1:Nat)∧(bdG (1000000000000:Int) (c6 zG)∧bdG (1000000000000:Int) (c6 A))∧rI ((0:Int)+(1:Int))∧(0:Int)≤Int.ofNat (Nat.succ (0:Nat))∧Int.ofNat (Nat.succ (0:Nat))<(↑(3:Nat):Int)∧(0:Nat)<(1:Nat)∧(0:Nat)<(1:Nat)∧(bdG (1000000000000:Int) (c6 (adG (c6 zG) (c6 A)))∧bdG (1000000000000:Int) (c6 B))∧rI ((0:Int)+(1:Int)+(1:Int))∧(0:Int)≤Int.ofNat (Nat.succ (1:Nat))∧Int.ofNat (Nat.succ (1:Nat))<(↑(3:Nat):Int)∧(0:Nat)<(1:Nat)∧(0:Nat)<(1:Nat)∧(bdG (1000000000000:Int) (c6 (adG (c6 (adG (c6 zG) (c6 A))) (c6 B)))∧bdG (1000000000000:Int) (c6 C))∧rI ((0:Int)+(1:Int)+(1:Int)+(1:Int))∧(0:Nat) <
(1:Nat)∧(0:Nat)<(1:Nat)∧rE ((0:Int)+(A (0:Nat)).1+(B (0:Nat)).1+(C (0:Nat)).1)∧rE ((0:Int)+(A (0:Nat)).2+(B (0:Nat)).2+(C (0:Nat)).2)∧rE ((0:Int)+(A (1:Nat)).1+(B (1:Nat)).1+(C (1:Nat)).1)∧rE ((0:Int)+(A (1:Nat)).2+(B (1:Nat)).2+(C (1:Nat)).2)∧rE ((0:Int)+(A (2:Nat)).1+(B (2:Nat)).1+(C (2:Nat)).1)∧rE ((0:Int)+(A (2:Nat)).2+(B (2:Nat)).2+(C (2:Nat)).2)∧rE ((0:Int)+(A (3:Nat)).1+(B (3:Nat)).1+(C (3:Nat)).1)∧rE ((0:Int)+(A (3:Nat)).2+(B (3:Nat)).2+(C (3:Nat)).2)∧rE ((0:Int)+(A (4:Nat)).1+(B (4:Nat)).1+(C (4:Nat)).1)∧rE ((0:Int)+(A (4:Nat)).2+(B (4:Nat)).2+(C (4:Nat)).2)∧rE ((0:Int)+(A (5:Nat)).1+(B (5:Nat)).1+(C (5:Nat)).1)∧rE ((0:Int)+(A (5:Nat)).2+(B (5:Nat)).2+(C (5:Nat)).2)∧True):=by kernel_rfl
theorem tbG_vc (s:Sti) (t:Int):tbG s t=((0:Nat)<(1:Nat)∧rI ((0:Int) - t)∧(0:Nat)<(1:Nat)∧rI (((0:Int) - t)*s.2)∧(0:Int)≤s.1∧s.1<(↑(6:Nat):Int)∧(0:Nat)+s.1.toNat*(2:Nat)+(1:Nat)<(12:Nat)∧(0:Nat)<(1:Nat)∧(0:Nat)<(1:Nat)∧(if (0:Nat)+s.1.toNat*(2:Nat)+(1:Nat)=(0:Nat) then ((0:Int) - t)*s.2 else if (0:Nat)+s.1.toNat*(2:Nat)=(0:Nat) then ((0:Int) - t)*s.2 else (0:Int))=(tkG s t (0:Nat)).1∧(if (0:Nat)+s.1.toNat*(2:Nat)+(1:Nat)=(1:Nat) then ((0:Int) - t)*s.2 else if (0:Nat)+s.1.toNat*(2:Nat)=(1:Nat) then ((0:Int) - t)*s.2 else (0:Int))=(tkG s t (0:Nat)).2∧(if (0:Nat)+s.1.toNat*(2:Nat)+(1:Nat)=(2:Nat) then ((0:Int) - t)*s.2 else if (0:Nat)+s.1.toNat*(2:Nat)=(2:Nat) then ((0:Int) - t)*s.2 else (0
: Int))=(tkG s t (1:Nat)).1∧(if (0:Nat)+s.1.toNat*(2:Nat)+(1:Nat)=(3:Nat) then ((0:Int) - t)*s.2 else if (0:Nat)+s.1.toNat*(2:Nat)=(3:Nat) then ((0:Int) - t)*s.2 else (0:Int))=(tkG s t (1:Nat)).2∧(if (0:Nat)+s.1.toNat*(2:Nat)+(1:Nat)=(4:Nat) then ((0:Int) - t)*s.2 else if (0:Nat)+s.1.toNat*(2:Nat)=(4:Nat) then ((0:Int) - t)*s.2 else (0:Int))=(tkG s t (2:Nat)).1∧(if (0:Nat)+s.1.toNat*(2:Nat)+(1:Nat)=(5:Nat) then ((0:Int) - t)*s.2 else if (0:Nat)+s.1.toNat*(2:Nat)=(5:Nat) then ((0:Int) - t)*s.2 else (0:Int))=(tkG s t (2:Nat)).2∧(if (0:Nat)+s.1.toNat*(2:Nat)+(1:Nat)=(6:Nat) then ((0:Int) - t)*s.2 else if (0:Nat)+s.1.toNat*(2:Nat)=(6:Nat) then ((0:Int) - t)*s.2 else (0:Int))=(tkG s t (3:Nat)).1∧(if (0:Nat)+s.1.toNat
* (2:Nat)+(1:Nat)=(7:Nat) then ((0:Int) - t)*s.2 else if (0:Nat)+s.1.toNat*(2:Nat)=(7:Nat) then ((0:Int) - t)*s.2 else (0:Int))=(tkG s t (3:Nat)).2∧(if (0:Nat)+s.1.toNat*(2:Nat)+(1:Nat)=(8:Nat) then ((0:Int) - t)*s.2 else if (0:Nat)+s.1.toNat*(2:Nat)=(8:Nat) then ((0:Int) - t)*s.2 else (0:Int))=(tkG s t (4:Nat)).1∧(if (0:Nat)+s.1.toNat*(2:Nat)+(1:Nat)=(9:Nat) then ((0:Int) - t)*s.2 else if (0:Nat)+s.1.toNat*(2:Nat)=(9:Nat) then ((0:Int) - t)*s.2 else (0:Int))=(tkG s t (4:Nat)).2∧(if (0:Nat)+s.1.toNat*(2:Nat)+(1:Nat)=(10:Nat) then ((0:Int) - t)*s.2 else if (0:Nat)+s.1.toNat*(2:Nat)=(10:Nat) then ((0:Int) - t)*s.2 else (0:Int))=(tkG s t (5:Nat)).1∧(if (0:Nat)+s.1.toNat*(2:Nat)+(1:Nat)=(11:Nat) then ((0:Int)
- t)*s.2 else if (0:Nat)+s.1.toNat*(2:Nat)=(11:Nat) then ((0:Int) - t)*s.2 else (0:Int))=(tkG s t (5:Nat)).2∧True):=by kernel_rfl
theorem mbG_vc (s:Sti) (t:Int):mbG s t=((0:Nat)<(1:Nat)∧(∃ (z:Nat),z≤s.3∧t=t∧rE (0:Nat)∧rE (0:Nat)∧rE (0:Nat)∧rE (0:Nat)∧rE (0:Nat)∧rE (0:Nat)∧s.3=s.3∧(∀ (i:Nat),i<s.3→rE ((s.out i).sv.den)∧True∧True∧True)∧rE (↑s.3:Int)∧(0:Int)=(↑z:Int)∧s.1=s.1∧s.2=s.2∧s.3=s.3∧(∀ (i:Nat),i<s.3→rE ((s.out i).sv.den)∧True∧True∧True)∧s.5=s.5∧s.6=s.6∧rE (0:Int)∧rE (0:Int)∧rE (0:Int)∧rE (0:Int)∧rE (0:Int)∧rE (0:Int)∧rE (0:Int)∧rE (0:Int)∧rE (0:Int)∧rE (0:Int)∧rE (0:Int)∧rE (0:Int)∧(0:Int)=(mdG s t z (0:Nat)).1∧(0:Int)=(mdG s t z (0:Nat)).2∧(0:Int)=(mdG s t z (1:Nat)).1∧(0:Int)=(mdG s t z (1:Nat)).2∧(0:Int)=(mdG s t z (2:Nat)).1∧(0:Int)=(mdG s t z (2:Nat)).2∧(0:Int)=(mdG s t z (3:Nat)).1∧(0:Int)
= (mdG s t z (3:Nat)).2∧(0:Int)=(mdG s t z (4:Nat)).1∧(0:Int)=(mdG s t z (4:Nat)).2∧(0:Int)=(mdG s t z (5:Nat)).1∧(0:Int)=(mdG s t z (5:Nat)).2∧True)∧∀ (z:Nat),z≤s.3→((↑z:Int)<(↑s.3:Int)→(0:Int)≤(↑z:Int)∧(↑z:Int)<(↑s.3:Int)∧(0:Nat)<(1:Nat)∧(rI (t*(s.out (↑z:Int).toNat).lo)∧rI (t*(s.out (↑z:Int).toNat).hi))∧(0:Int)≤(↑z:Int)∧(↑z:Int)<(↑(6:Nat):Int)∧(0:Nat)+(↑z:Int).toNat*(2:Nat)+(1:Nat)<(12:Nat)∧rI ((↑z:Int)+(1:Int))∧∃ (z_1:Nat),z_1≤s.3∧s.3 - z_1<s.3 - z∧t=t∧rE (0:Nat)∧rE (0:Nat)∧rE (0:Nat)∧rE (0:Nat)∧rE (0:Nat)∧rE (0:Nat)∧s.3=s.3∧(∀ (i:Nat),i<s.3→rE ((s.out i).sv.den)∧True∧True∧True)∧rE (↑s.3:Int)∧(↑z:Int)+(1:Int)=(↑z_1:Int)∧s.1=s.1∧s.2=s.2∧s.3=s.3∧(∀ (i:Nat),i<s.3 →
rE ((s.out i).sv.den)∧True∧True∧True)∧s.5=s.5∧s.6=s.6∧rE (0:Int)∧rE (0:Int)∧rE (0:Int)∧rE (0:Int)∧rE (0:Int)∧rE (0:Int)∧rE (0:Int)∧rE (0:Int)∧rE (0:Int)∧rE (0:Int)∧rE (0:Int)∧rE (0:Int)∧(if (0:Nat)+(↑z:Int).toNat*(2:Nat)+(1:Nat)=(0:Nat) then t*(s.out (↑z:Int).toNat).2 else if (0:Nat)+(↑z:Int).toNat*(2:Nat)=(0:Nat) then t*(s.out (↑z:Int).toNat).1 else (mdG s t z (0:Nat)).1)=(mdG s t z_1 (0:Nat)).1∧(if (0:Nat)+(↑z:Int).toNat*(2:Nat)+(1:Nat)=(1:Nat) then t*(s.out (↑z:Int).toNat).2 else if (0:Nat)+(↑z:Int).toNat*(2:Nat)=(1:Nat) then t*(s.out (↑z:Int).toNat).1 else (mdG s t z (0:Nat)).2)=(mdG s t z_1 (0:Nat)).2∧(if (0:Nat)+(↑z:Int).toNat*(2:Nat)+(1:Nat)=(2:Nat) then t*(s.out (↑z:Int).toNat).2 else if (0:Nat)+(↑z
: Int).toNat*(2:Nat)=(2:Nat) then t*(s.out (↑z:Int).toNat).1 else (mdG s t z (1:Nat)).1)=(mdG s t z_1 (1:Nat)).1∧(if (0:Nat)+(↑z:Int).toNat*(2:Nat)+(1:Nat)=(3:Nat) then t*(s.out (↑z:Int).toNat).2 else if (0:Nat)+(↑z:Int).toNat*(2:Nat)=(3:Nat) then t*(s.out (↑z:Int).toNat).1 else (mdG s t z (1:Nat)).2)=(mdG s t z_1 (1:Nat)).2∧(if (0:Nat)+(↑z:Int).toNat*(2:Nat)+(1:Nat)=(4:Nat) then t*(s.out (↑z:Int).toNat).2 else if (0:Nat)+(↑z:Int).toNat*(2:Nat)=(4:Nat) then t*(s.out (↑z:Int).toNat).1 else (mdG s t z (2:Nat)).1)=(mdG s t z_1 (2:Nat)).1∧(if (0:Nat)+(↑z:Int).toNat*(2:Nat)+(1:Nat)=(5:Nat) then t*(s.out (↑z:Int).toNat).2 else if (0:Nat)+(↑z:Int).toNat*(2:Nat)=(5:Nat) then t*(s.out (↑z:Int).toNat).1 else (mdG s t z (2:Nat)).2)=(mdG s t z_1
(2:Nat)).2∧(if (0:Nat)+(↑z:Int).toNat*(2:Nat)+(1:Nat)=(6:Nat) then t*(s.out (↑z:Int).toNat).2 else if (0:Nat)+(↑z:Int).toNat*(2:Nat)=(6:Nat) then t*(s.out (↑z:Int).toNat).1 else (mdG s t z (3:Nat)).1)=(mdG s t z_1 (3:Nat)).1∧(if (0:Nat)+(↑z:Int).toNat*(2:Nat)+(1:Nat)=(7:Nat) then t*(s.out (↑z:Int).toNat).2 else if (0:Nat)+(↑z:Int).toNat*(2:Nat)=(7:Nat) then t*(s.out (↑z:Int).toNat).1 else (mdG s t z (3:Nat)).2)=(mdG s t z_1 (3:Nat)).2∧(if (0:Nat)+(↑z:Int).toNat*(2:Nat)+(1:Nat)=(8:Nat) then t*(s.out (↑z:Int).toNat).2 else if (0:Nat)+(↑z:Int).toNat*(2:Nat)=(8:Nat) then t*(s.out (↑z:Int).toNat).1 else (mdG s t z (4:Nat)).1)=(mdG s t z_1 (4:Nat)).1∧(if (0:Nat)+(↑z:Int).toNat*(2:Nat)+(1:Nat)=(9:Nat) then t*(s.out (↑z:Int).toNat).2
else if (0:Nat)+(↑z:Int).toNat*(2:Nat)=(9:Nat) then t*(s.out (↑z:Int).toNat).1 else (mdG s t z (4:Nat)).2)=(mdG s t z_1 (4:Nat)).2∧(if (0:Nat)+(↑z:Int).toNat*(2:Nat)+(1:Nat)=(10:Nat) then t*(s.out (↑z:Int).toNat).2 else if (0:Nat)+(↑z:Int).toNat*(2:Nat)=(10:Nat) then t*(s.out (↑z:Int).toNat).1 else (mdG s t z (5:Nat)).1)=(mdG s t z_1 (5:Nat)).1∧(if (0:Nat)+(↑z:Int).toNat*(2:Nat)+(1:Nat)=(11:Nat) then t*(s.out (↑z:Int).toNat).2 else if (0:Nat)+(↑z:Int).toNat*(2:Nat)=(11:Nat) then t*(s.out (↑z:Int).toNat).1 else (mdG s t z (5:Nat)).2)=(mdG s t z_1 (5:Nat)).2∧True)∧(¬(↑z:Int)<(↑s.3:Int)→(0:Nat)<(1:Nat)∧(0:Nat)<(1:Nat)∧(mdG s t z (0:Nat)).1=(mdG s t s.on (0:Nat)).1∧(mdG s t z (0:Nat)).2=(mdG s t s.on (0:Nat)).2∧(mdG s t z (1:Nat)).1
= (mdG s t s.on (1:Nat)).1∧(mdG s t z (1:Nat)).2=(mdG s t s.on (1:Nat)).2∧(mdG s t z (2:Nat)).1=(mdG s t s.on (2:Nat)).1∧(mdG s t z (2:Nat)).2=(mdG s t s.on (2:Nat)).2∧(mdG s t z (3:Nat)).1=(mdG s t s.on (3:Nat)).1∧(mdG s t z (3:Nat)).2=(mdG s t s.on (3:Nat)).2∧(mdG s t z (4:Nat)).1=(mdG s t s.on (4:Nat)).1∧(mdG s t z (4:Nat)).2=(mdG s t s.on (4:Nat)).2∧(mdG s t z (5:Nat)).1=(mdG s t s.on (5:Nat)).1∧(mdG s t z (5:Nat)).2=(mdG s t s.on (5:Nat)).2∧True)):=by kernel_rfl
theorem ncG_vc (n:Nat) (st:Nat→Int):ncG n st=((∃ (z:Nat),z≤n∧rE (0:Nat)∧rE (0:Nat)∧rE (0:Nat)∧rE (0:Nat)∧n=n∧(∀ (i:Nat),i<n→rE ((i6 (st i)).den)∧True)∧rE (↑n:Int)∧(0:Int)=(↑z:Int)∧rE (0:Int)∧rE (0:Int)∧rE (0:Int)∧rE (0:Int)∧rE (0:Int)∧rE (0:Int)∧rE (0:Int)∧rE (0:Int)∧rE (0:Int)∧rE (0:Int)∧rE (0:Int)∧rE (0:Int)∧rE (0:Int)∧rE (0:Int)∧rE (0:Int)∧rE (0:Int)∧rE (0:Int)∧rE (0:Int)∧rE (0:Int)∧rE (0:Int)∧rE (0:Int)∧(0:Int)=((stC z st).l (0:Nat)).1∧(0:Int)=((stC z st).l (0:Nat)).2∧(0:Int)=((stC z st).l (1:Nat)).1∧(0:Int)=((stC z st).l (1:Nat)).2∧(0:Int)=((stC z st).l (2:Nat)).1∧(0:Int)=((stC z st).l (2:Nat)).2∧(0:Int)=((stC z st).l (3:Nat)).1∧(0:Int)=((stC z st).l (3:Nat)).2∧(0:Int)=((stC
z st).l (4:Nat)).1∧(0:Int)=((stC z st).l (4:Nat)).2∧(0:Int)=((stC z st).l (5:Nat)).1∧(0:Int)=((stC z st).l (5:Nat)).2∧rE (0:Int)∧True)∧∀ (z:Nat),z≤n→((↑z:Int)<(↑n:Int)→(0:Int)≤(↑z:Int)∧(↑z:Int)<(↑n:Int)∧(0:Int)≤(↑z:Int)∧(↑z:Int)<(↑(6:Nat):Int)∧(4:Nat)+(↑z:Int).toNat*(2:Nat)+(1:Nat)<(17:Nat)∧rI ((↑z:Int)+(1:Int))∧∃ (z_1:Nat),z_1≤n∧n - z_1<n - z∧rE (0:Nat)∧rE (0:Nat)∧rE (0:Nat)∧rE (0:Nat)∧n=n∧(∀ (i:Nat),i<n→rE ((i6 (st i)).den)∧True)∧rE (↑n:Int)∧(↑z:Int)+(1:Int)=(↑z_1:Int)∧rE (0:Int)∧rE (0:Int)∧rE (0:Int)∧rE (0:Int)∧rE (0:Int)∧rE (0:Int)∧rE (0:Int)∧rE (0:Int)∧rE (0:Int)∧rE (0:Int)∧rE (0:Int)∧rE (0:Int)∧rE (0:Int)∧rE (0:Int)∧rE (0:Int)∧rE (0:Int)∧rE (0:Int)∧(if
(4:Nat)+(↑z:Int).toNat*(2:Nat)+(1:Nat)=(0:Nat) then st (↑z:Int).toNat else if (4:Nat)+(↑z:Int).toNat*(2:Nat)=(0:Nat) then st (↑z:Int).toNat else (0:Int))=(0:Int)∧(if (4:Nat)+(↑z:Int).toNat*(2:Nat)+(1:Nat)=(1:Nat) then st (↑z:Int).toNat else if (4:Nat)+(↑z:Int).toNat*(2:Nat)=(1:Nat) then st (↑z:Int).toNat else (0:Int))=(0:Int)∧(if (4:Nat)+(↑z:Int).toNat*(2:Nat)+(1:Nat)=(2:Nat) then st (↑z:Int).toNat else if (4:Nat)+(↑z:Int).toNat*(2:Nat)=(2:Nat) then st (↑z:Int).toNat else (0:Int))=(0:Int)∧(if (4:Nat)+(↑z:Int).toNat*(2:Nat)+(1:Nat)=(3:Nat) then st (↑z:Int).toNat else if (4:Nat)+(↑z:Int).toNat*(2:Nat)=(3:Nat) then st (↑z:Int).toNat else (0:Int))=(0:Int)∧(if (4:Nat)+(↑z:Int).toNat*(2:Nat)+(1:Nat)=(4:Nat)
then st (↑z:Int).toNat else if (4:Nat)+(↑z:Int).toNat*(2:Nat)=(4:Nat) then st (↑z:Int).toNat else ((stC z st).l (0:Nat)).1)=((stC z_1 st).l (0:Nat)).1∧(if (4:Nat)+(↑z:Int).toNat*(2:Nat)+(1:Nat)=(5:Nat) then st (↑z:Int).toNat else if (4:Nat)+(↑z:Int).toNat*(2:Nat)=(5:Nat) then st (↑z:Int).toNat else ((stC z st).l (0:Nat)).2)=((stC z_1 st).l (0:Nat)).2∧(if (4:Nat)+(↑z:Int).toNat*(2:Nat)+(1:Nat)=(6:Nat) then st (↑z:Int).toNat else if (4:Nat)+(↑z:Int).toNat*(2:Nat)=(6:Nat) then st (↑z:Int).toNat else ((stC z st).l (1:Nat)).1)=((stC z_1 st).l (1:Nat)).1∧(if (4:Nat)+(↑z:Int).toNat*(2:Nat)+(1:Nat)=(7:Nat) then st (↑z:Int).toNat else if (4:Nat)+(↑z:Int).toNat*(2:Nat)=(7:Nat) then st (↑z:Int).toNat else ((stC z st).l (1:Nat)).2)=((stC z_1 st).l (1
: Nat)).2∧(if (4:Nat)+(↑z:Int).toNat*(2:Nat)+(1:Nat)=(8:Nat) then st (↑z:Int).toNat else if (4:Nat)+(↑z:Int).toNat*(2:Nat)=(8:Nat) then st (↑z:Int).toNat else ((stC z st).l (2:Nat)).1)=((stC z_1 st).l (2:Nat)).1∧(if (4:Nat)+(↑z:Int).toNat*(2:Nat)+(1:Nat)=(9:Nat) then st (↑z:Int).toNat else if (4:Nat)+(↑z:Int).toNat*(2:Nat)=(9:Nat) then st (↑z:Int).toNat else ((stC z st).l (2:Nat)).2)=((stC z_1 st).l (2:Nat)).2∧(if (4:Nat)+(↑z:Int).toNat*(2:Nat)+(1:Nat)=(10:Nat) then st (↑z:Int).toNat else if (4:Nat)+(↑z:Int).toNat*(2:Nat)=(10:Nat) then st (↑z:Int).toNat else ((stC z st).l (3:Nat)).1)=((stC z_1 st).l (3:Nat)).1∧(if (4:Nat)+(↑z:Int).toNat*(2:Nat)+(1:Nat)=(11:Nat) then st (↑z:Int).toNat else if (4:Nat)+(↑z:Int).toNat*(2:Nat)=(11
: Nat) then st (↑z:Int).toNat else ((stC z st).l (3:Nat)).2)=((stC z_1 st).l (3:Nat)).2∧(if (4:Nat)+(↑z:Int).toNat*(2:Nat)+(1:Nat)=(12:Nat) then st (↑z:Int).toNat else if (4:Nat)+(↑z:Int).toNat*(2:Nat)=(12:Nat) then st (↑z:Int).toNat else ((stC z st).l (4:Nat)).1)=((stC z_1 st).l (4:Nat)).1∧(if (4:Nat)+(↑z:Int).toNat*(2:Nat)+(1:Nat)=(13:Nat) then st (↑z:Int).toNat else if (4:Nat)+(↑z:Int).toNat*(2:Nat)=(13:Nat) then st (↑z:Int).toNat else ((stC z st).l (4:Nat)).2)=((stC z_1 st).l (4:Nat)).2∧(if (4:Nat)+(↑z:Int).toNat*(2:Nat)+(1:Nat)=(14:Nat) then st (↑z:Int).toNat else if (4:Nat)+(↑z:Int).toNat*(2:Nat)=(14:Nat) then st (↑z:Int).toNat else ((stC z st).l (5:Nat)).1)=((stC z_1 st).l (5:Nat)).1∧(if (4:Nat)+(↑z:Int).toNat*(2:Nat)+(1:Nat) =
(15:Nat) then st (↑z:Int).toNat else if (4:Nat)+(↑z:Int).toNat*(2:Nat)=(15:Nat) then st (↑z:Int).toNat else ((stC z st).l (5:Nat)).2)=((stC z_1 st).l (5:Nat)).2∧(if (4:Nat)+(↑z:Int).toNat*(2:Nat)+(1:Nat)=(16:Nat) then st (↑z:Int).toNat else if (4:Nat)+(↑z:Int).toNat*(2:Nat)=(16:Nat) then st (↑z:Int).toNat else (0:Int))=(0:Int)∧True)∧(¬(↑z:Int)<(↑n:Int)→(0:Nat)<(1:Nat)∧(0:Nat)<(1:Nat)∧rE (0:Int)∧rE (0:Int)∧rE (0:Int)∧rE (0:Int)∧((stC z st).l (0:Nat)).1=((stC n st).l (0:Nat)).1∧((stC z st).l (0:Nat)).2=((stC n st).l (0:Nat)).2∧((stC z st).l (1:Nat)).1=((stC n st).l (1:Nat)).1∧((stC z st).l (1:Nat)).2=((stC n st).l (1:Nat)).2∧((stC z st).l (2:Nat)).1=((stC n st).l (2:Nat)).1∧((stC z st).l (2:Nat)).2=((stC n st).l (2:Nat)).2∧((stC z
st).l (3:Nat)).1=((stC n st).l (3:Nat)).1∧((stC z st).l (3:Nat)).2=((stC n st).l (3:Nat)).2∧((stC z st).l (4:Nat)).1=((stC n st).l (4:Nat)).1∧((stC z st).l (4:Nat)).2=((stC n st).l (4:Nat)).2∧((stC z st).l (5:Nat)).1=((stC n st).l (5:Nat)).1∧((stC z st).l (5:Nat)).2=((stC n st).l (5:Nat)).2∧rE (0:Int)∧True)):=by kernel_rfl
theorem wiG_vc (c:Crs) (at':Int) (s:Sti) (t:Int):wiG c at' s t=((0:Nat)<(1:Nat)∧(0:Int)≤s.1∧s.1<(↑(6:Nat):Int)∧(0:Nat)<(1:Nat)∧(4:Nat)+s.1.toNat*(2:Nat)+(0:Nat)<(17:Nat)∧(0:Nat)<(1:Nat)∧rI (t*s.2)∧(cellZ c.cells ((4:Nat)+s.1.toNat*(2:Nat)+(0:Nat))<t*s.2→(0:Nat)<(1:Nat)∧(0:Int)=(wiX c at' s t).1 (0:Nat)∧(0:Int)=(wiX c at' s t).1 (1:Nat)∧(0:Int)=(wiX c at' s t).1 (2:Nat)∧(0:Int)=(wiX c at' s t).1 (3:Nat)∧(0:Int)=((wiX c at' s t).l (0:Nat)).1∧(0:Int)=((wiX c at' s t).l (0:Nat)).2∧(0:Int)=((wiX c at' s t).l (1:Nat)).1∧(0:Int)=((wiX c at' s t).l (1:Nat)).2∧(0:Int)=((wiX c at' s t).l (2:Nat)).1∧(0:Int)=((wiX c at' s t).l (2:Nat)).2∧(0:Int)=((wiX c at' s t).l (3:Nat)).1∧(0:Int)=((wiX c at' s t).l (3:Nat)).2
∧ (0:Int)=((wiX c at' s t).l (4:Nat)).1∧(0:Int)=((wiX c at' s t).l (4:Nat)).2∧(0:Int)=((wiX c at' s t).l (5:Nat)).1∧(0:Int)=((wiX c at' s t).l (5:Nat)).2∧(0:Int)=(wiX c at' s t).3∧(false=true↔canP c s t)∧True)∧(¬cellZ c.cells ((4:Nat)+s.1.toNat*(2:Nat)+(0:Nat))<t*s.2→(0:Int)≤at'∧at'<(↑(4:Nat):Int)∧(0:Nat)+at'.toNat*(1:Nat)<(17:Nat)∧(0:Nat)<(1:Nat)∧(0:Nat)<(1:Nat)∧(∀ (i:Nat),i<s.3→True∧True∧True)∧(SV.lst (2:Nat) s.on fun i=>(s.out i).sv)=twL s.on (ftOf fun i=>(s.out i).sv)∧okSt s∧okT t∧(0:Nat)<(1:Nat)∧(∀ (i:Nat),i<s.3→True∧True∧True)∧(SV.lst (2:Nat) s.on fun i=>(s.out i).sv)=twL s.on (ftOf fun i=>(s.out i).sv)∧okSt s∧okT t∧((∀ (i:Nat),rE true)∧(∀ (i:Nat),rE true)∧True)∧(∀ (i:Nat),i<(3:Nat)→True∧True
∧ True∧True∧True∧True∧True∧True∧True∧True∧True∧True∧True)∧rE (3:Nat)∧(bdG (100000000000:Int) (c6 ((psX c at' t).l))∧bdG (100000000000:Int) (c6 (tkG s t))∧bdG (100000000000:Int) (c6 (mdG s t s.on)))∧(0:Nat)<(1:Nat)∧(0:Nat)<(1:Nat)∧rI (t*s.5)∧rI ((if (0:Nat)+at'.toNat*(1:Nat)=(16:Nat) then t else c.3)+t*s.5)∧(0:Nat)<(1:Nat)∧(0:Nat)<(1:Nat)∧(if (0:Nat)+at'.toNat*(1:Nat)=(0:Nat) then t else c.1 (0:Nat))=(wiX c at' s t).1 (0:Nat)∧(if (0:Nat)+at'.toNat*(1:Nat)=(1:Nat) then t else c.1 (1:Nat))=(wiX c at' s t).1 (1:Nat)∧(if (0:Nat)+at'.toNat*(1:Nat)=(2:Nat) then t else c.1 (2:Nat))=(wiX c at' s t).1 (2:Nat)∧(if (0:Nat)+at'.toNat*(1:Nat)=(3:Nat) then t else c.1 (3:Nat))=(wiX c at' s t).1 (3:Nat)∧((((0:Int)+if (0:Nat)=(0
: Nat) then ((psX c at' t).l (0:Nat)).lo else (tkG s t (0:Nat)).1)+if (1:Nat)=(0:Nat) then ((psX c at' t).l (0:Nat)).lo else (tkG s t (0:Nat)).1)+if (2:Nat)=(0:Nat) then ((psX c at' t).l (0:Nat)).lo else (mdG s t s.on (0:Nat)).1)=((wiX c at' s t).l (0:Nat)).1∧((((0:Int)+if (0:Nat)=(0:Nat) then ((psX c at' t).l (0:Nat)).hi else (tkG s t (0:Nat)).2)+if (1:Nat)=(0:Nat) then ((psX c at' t).l (0:Nat)).hi else (tkG s t (0:Nat)).2)+if (2:Nat)=(0:Nat) then ((psX c at' t).l (0:Nat)).hi else (mdG s t s.on (0:Nat)).2)=((wiX c at' s t).l (0:Nat)).2∧((((0:Int)+if (0:Nat)=(0:Nat) then ((psX c at' t).l (1:Nat)).lo else (tkG s t (1:Nat)).1)+if (1:Nat)=(0:Nat) then ((psX c at' t).l (1:Nat)).lo else (tkG s t (1:Nat)).1)+if (2:Nat)=(0:Nat) then ((psX c at' t).l (1:Nat)).lo else (mdG s t s.on (1
: Nat)).1)=((wiX c at' s t).l (1:Nat)).1∧((((0:Int)+if (0:Nat)=(0:Nat) then ((psX c at' t).l (1:Nat)).hi else (tkG s t (1:Nat)).2)+if (1:Nat)=(0:Nat) then ((psX c at' t).l (1:Nat)).hi else (tkG s t (1:Nat)).2)+if (2:Nat)=(0:Nat) then ((psX c at' t).l (1:Nat)).hi else (mdG s t s.on (1:Nat)).2)=((wiX c at' s t).l (1:Nat)).2∧((((0:Int)+if (0:Nat)=(0:Nat) then ((psX c at' t).l (2:Nat)).lo else (tkG s t (2:Nat)).1)+if (1:Nat)=(0:Nat) then ((psX c at' t).l (2:Nat)).lo else (tkG s t (2:Nat)).1)+if (2:Nat)=(0:Nat) then ((psX c at' t).l (2:Nat)).lo else (mdG s t s.on (2:Nat)).1)=((wiX c at' s t).l (2:Nat)).1∧((((0:Int)+if (0:Nat)=(0:Nat) then ((psX c at' t).l (2:Nat)).hi else (tkG s t (2:Nat)).2)+if (1:Nat)=(0:Nat) then ((psX c at' t).l (2:Nat)).hi else (tkG s t (2:Nat)).2)+if
(2:Nat)=(0:Nat) then ((psX c at' t).l (2:Nat)).hi else (mdG s t s.on (2:Nat)).2)=((wiX c at' s t).l (2:Nat)).2∧((((0:Int)+if (0:Nat)=(0:Nat) then ((psX c at' t).l (3:Nat)).lo else (tkG s t (3:Nat)).1)+if (1:Nat)=(0:Nat) then ((psX c at' t).l (3:Nat)).lo else (tkG s t (3:Nat)).1)+if (2:Nat)=(0:Nat) then ((psX c at' t).l (3:Nat)).lo else (mdG s t s.on (3:Nat)).1)=((wiX c at' s t).l (3:Nat)).1∧((((0:Int)+if (0:Nat)=(0:Nat) then ((psX c at' t).l (3:Nat)).hi else (tkG s t (3:Nat)).2)+if (1:Nat)=(0:Nat) then ((psX c at' t).l (3:Nat)).hi else (tkG s t (3:Nat)).2)+if (2:Nat)=(0:Nat) then ((psX c at' t).l (3:Nat)).hi else (mdG s t s.on (3:Nat)).2)=((wiX c at' s t).l (3:Nat)).2∧((((0:Int)+if (0:Nat)=(0:Nat) then ((psX c at' t).l (4:Nat)).lo else (tkG s t (4:Nat)).1)+if (1:Nat) =
(0:Nat) then ((psX c at' t).l (4:Nat)).lo else (tkG s t (4:Nat)).1)+if (2:Nat)=(0:Nat) then ((psX c at' t).l (4:Nat)).lo else (mdG s t s.on (4:Nat)).1)=((wiX c at' s t).l (4:Nat)).1∧((((0:Int)+if (0:Nat)=(0:Nat) then ((psX c at' t).l (4:Nat)).hi else (tkG s t (4:Nat)).2)+if (1:Nat)=(0:Nat) then ((psX c at' t).l (4:Nat)).hi else (tkG s t (4:Nat)).2)+if (2:Nat)=(0:Nat) then ((psX c at' t).l (4:Nat)).hi else (mdG s t s.on (4:Nat)).2)=((wiX c at' s t).l (4:Nat)).2∧((((0:Int)+if (0:Nat)=(0:Nat) then ((psX c at' t).l (5:Nat)).lo else (tkG s t (5:Nat)).1)+if (1:Nat)=(0:Nat) then ((psX c at' t).l (5:Nat)).lo else (tkG s t (5:Nat)).1)+if (2:Nat)=(0:Nat) then ((psX c at' t).l (5:Nat)).lo else (mdG s t s.on (5:Nat)).1)=((wiX c at' s t).l (5:Nat)).1∧((((0:Int)+if (0:Nat)=(0:Nat) then
((psX c at' t).l (5:Nat)).hi else (tkG s t (5:Nat)).2)+if (1:Nat)=(0:Nat) then ((psX c at' t).l (5:Nat)).hi else (tkG s t (5:Nat)).2)+if (2:Nat)=(0:Nat) then ((psX c at' t).l (5:Nat)).hi else (mdG s t s.on (5:Nat)).2)=((wiX c at' s t).l (5:Nat)).2∧(if (0:Nat)+at'.toNat*(1:Nat)=(16:Nat) then t else c.3)+t*s.5=(wiX c at' s t).3∧(rE true↔canP c s t)∧True)):=by kernel_rfl
end Go.Proofs.Ytbedomoilakcaaa

namespace Go.Proofs.Ytbedomoilakcaaa
open Go Go.Lg
theorem gdV_cells (f:Nat→Tw):(gdV f).cells=gdC f:=rfl
theorem sc1:Nat.succ (1:Nat)=2:=rfl
end Go.Proofs.Ytbedomoilakcaaa

set_option maxRecDepth 100000
namespace Go.Proofs.Ytbedomoilakcaaa
open Go Go.Lg
attribute [local irreducible] funS bodyH
theorem cz_lo (f:Nat→Tw) {z:Nat} (h:z<6):cellZ (gdC f) (z*2)=(f z).lo:=by
 have:z=0∨z=1∨z=2∨z=3∨z=4∨z=5:=by omega
 rcases this with rfl | rfl | rfl | rfl | rfl | rfl <;> rfl
theorem cz_hi (f:Nat→Tw) {z:Nat} (h:z<6):cellZ (gdC f) (z*2+1)=(f z).hi:=by
 have:z=0∨z=1∨z=2∨z=3∨z=4∨z=5:=by omega
 rcases this with rfl | rfl | rfl | rfl | rfl | rfl <;> rfl
theorem cr_lo (c:Crs) {z:Nat} (h:z<6):cellZ c.cells (4+z*2)=(c.l z).lo:=by
 have:z=0∨z=1∨z=2∨z=3∨z=4∨z=5:=by omega
 rcases this with rfl | rfl | rfl | rfl | rfl | rfl <;> rfl
section
variable {F G:Nat→Tw} {z:Nat} {u v:Int} (h1:(G z).lo=u) (h2:(G z).hi=v) (ho:∀ i,i≠z→G i=F i)
include h1 h2 ho
theorem elo {o:Nat} (p:Nat) (hp:p=o+z*2) (c d:Nat) (hd:d=o+2*c):(if p+1=d then v else if p=d then u else (F c).lo)=(G c).lo:=by
 rw [if_neg (by omega)]
 by_cases e:c=z
 ·subst e; rw [if_pos (by omega),h1]
 ·rw [if_neg (by omega),ho c e]
theorem ehi {o:Nat} (p:Nat) (hp:p=o+z*2) (c d:Nat) (hd:d=o+2*c+1):(if p+1=d then v else if p=d then u else (F c).hi)=(G c).hi:=by
 by_cases e:c=z
 ·subst e; rw [if_pos (by omega),h2]
 ·rw [if_neg (by omega),if_neg (by omega),ho c e]
theorem eqs12:(if z*2+1=0 then v else if z*2=0 then u else (F 0).lo)=(G 0).lo∧(if z*2+1=1 then v else if z*2=1 then u else (F 0).hi)=(G 0).hi∧(if z*2+1=2 then v else if z*2=2 then u else (F 1).lo)=(G 1).lo∧(if z*2+1=3 then v else if z*2=3 then u else (F 1).hi)=(G 1).hi∧(if z*2+1=4 then v else if z*2=4 then u else (F 2).lo)=(G 2).lo∧(if z*2+1=5 then v else if z*2=5 then u else (F 2).hi)=(G 2).hi∧(if z*2+1=6 then v else if z*2=6 then u else (F 3).lo)=(G 3).lo∧(if z*2+1=7 then v else if z*2=7 then u else (F 3).hi)=(G 3).hi∧(if z*2+1=8 then v else if z*2=8 then u else (F 4).lo)=(G 4).lo∧(if z*2+1=9 then v else if z*2=9 then u else (F 4).hi)=(G 4).hi∧(if z*2+1=10 then v else if z*2=10 then u else (F 5).lo)=(G 5).lo∧(if z*2+1=11 then v else if z*2=11 then u else (F 5).hi)=(G 5).hi :=
 ⟨elo h1 h2 ho (o:=0) (z*2) (by omega) 0 _ rfl,ehi h1 h2 ho (o:=0) (z*2) (by omega) 0 _ rfl,elo h1 h2 ho (o:=0) (z*2) (by omega) 1 _ rfl,ehi h1 h2 ho (o:=0) (z*2) (by omega) 1 _ rfl,elo h1 h2 ho (o:=0) (z*2) (by omega) 2 _ rfl,ehi h1 h2 ho (o:=0) (z*2) (by omega) 2 _ rfl,elo h1 h2 ho (o:=0) (z*2) (by omega) 3 _ rfl,ehi h1 h2 ho (o:=0) (z*2) (by omega) 3 _ rfl,elo h1 h2 ho (o:=0) (z*2) (by omega) 4 _ rfl,ehi h1 h2 ho (o:=0) (z*2) (by omega) 4 _ rfl,elo h1 h2 ho (o:=0) (z*2) (by omega) 5 _ rfl,ehi h1 h2 ho (o:=0) (z*2) (by omega) 5 _ rfl⟩
theorem eqs16:(if 4+z*2+1=4 then v else if 4+z*2=4 then u else (F 0).lo)=(G 0).lo∧(if 4+z*2+1=5 then v else if 4+z*2=5 then u else (F 0).hi)=(G 0).hi∧(if 4+z*2+1=6 then v else if 4+z*2=6 then u else (F 1).lo)=(G 1).lo∧(if 4+z*2+1=7 then v else if 4+z*2=7 then u else (F 1).hi)=(G 1).hi∧(if 4+z*2+1=8 then v else if 4+z*2=8 then u else (F 2).lo)=(G 2).lo∧(if 4+z*2+1=9 then v else if 4+z*2=9 then u else (F 2).hi)=(G 2).hi∧(if 4+z*2+1=10 then v else if 4+z*2=10 then u else (F 3).lo)=(G 3).lo∧(if 4+z*2+1=11 then v else if 4+z*2=11 then u else (F 3).hi)=(G 3).hi∧(if 4+z*2+1=12 then v else if 4+z*2=12 then u else (F 4).lo)=(G 4).lo∧(if 4+z*2+1=13 then v else if 4+z*2=13 then u else (F 4).hi)=(G 4).hi∧(if 4+z*2+1=14 then v else if 4+z*2=14 then u else (F 5).lo)=(G 5).lo∧(if 4+z*2+1=15 then v else if 4+z*2=15 then u else (F 5).hi)=(G 5).hi :=
 ⟨elo h1 h2 ho (o:=4) (4+z*2) (by omega) 0 _ rfl,ehi h1 h2 ho (o:=4) (4+z*2) (by omega) 0 _ rfl,elo h1 h2 ho (o:=4) (4+z*2) (by omega) 1 _ rfl,ehi h1 h2 ho (o:=4) (4+z*2) (by omega) 1 _ rfl,elo h1 h2 ho (o:=4) (4+z*2) (by omega) 2 _ rfl,ehi h1 h2 ho (o:=4) (4+z*2) (by omega) 2 _ rfl,elo h1 h2 ho (o:=4) (4+z*2) (by omega) 3 _ rfl,ehi h1 h2 ho (o:=4) (4+z*2) (by omega) 3 _ rfl,elo h1 h2 ho (o:=4) (4+z*2) (by omega) 4 _ rfl,ehi h1 h2 ho (o:=4) (4+z*2) (by omega) 4 _ rfl,elo h1 h2 ho (o:=4) (4+z*2) (by omega) 5 _ rfl,ehi h1 h2 ho (o:=4) (4+z*2) (by omega) 5 _ rfl⟩
end
theorem bd_c6 {b:Int} {F:Nat→Tw} (h:bdG b F):bdG b (c6 F):=fun i hi=>by
 have:i=0∨i=1∨i=2∨i=3∨i=4∨i=5:=by omega
 rcases this with rfl | rfl | rfl | rfl | rfl | rfl
 ·exact h 0 (by omega)
 ·exact h 1 (by omega)
 ·exact h 2 (by omega)
 ·exact h 3 (by omega)
 ·exact h 4 (by omega)
 ·exact h 5 (by omega)
theorem bd_ad {a b c:Int} {F G:Nat→Tw} (h:bdG a F) (k:bdG b G) (hc:a+b≤c):bdG c (adG F G):=fun i hi=>by
 have:=h i hi
 have:=k i hi
 simp only [adG]
 omega
theorem bd_z {b:Int} (h:0≤b):bdG b zG:=fun i hi=>by simp only [zG]; omega
theorem bd_mono {a b:Int} {F:Nat→Tw} (h:bdG a F) (k:a≤b):bdG b F:=fun i hi=>by
 have:=h i hi
 omega
theorem mul_bd {a b A B:Int} (h1:0≤a) (h2:a≤A) (h3:0≤b) (h4:b≤B):0≤a*b∧a*b≤A*B:=⟨Int.mul_nonneg h1 h3,Int.mul_le_mul h2 h4 h3 (by omega)⟩
theorem bd_tk {s:Sti} {t:Int} (h:okSt s) (ht:okT t):bdG 10000000 (tkG s t):=fun i hi=>by
 have h1:=mul_bd ht.1 ht.2 (by have:=h.t0; omega:0≤s.takes) h.t1
 have e:(0 - t)*s.takes=-(t*s.takes):=by rw [Int.zero_sub,Int.neg_mul]
 unfold tkG
 split
 ·simp only [e]; omega
 ·simp only; omega
theorem bd_md {s:Sti} {t:Int} (h:okSt s) (ht:okT t):bdG 10000000 (mdG s t s.on):=fun i hi=>by
 unfold mdG
 split
 ·rename_i hk
  have o:=h.o i hk
  have h1:=mul_bd ht.1 ht.2 o.a (Int.le_trans o.b o.c)
  have h2:=mul_bd ht.1 ht.2 (Int.le_trans o.a o.b) o.c
  simp only; omega
 ·simp only; omega
theorem ex_ok:exC.Ok Try.prog:=by
 refine ⟨by kernel_rfl,fun x k hk=>?_⟩
 simp only [exC] at hk
 split at hk
 ·rename_i n
  have hh:exG n:=by rw [exG_vc]; simp
  exact ⟨_,plainD nilS_cs nilS_x nilS_ic hh (by simp [plainS,plainS.plainL]),hk⟩
 ·exact hk.elim
theorem ti_ok:tiC.Ok Try.prog:=by
 refine ⟨by kernel_rfl,fun x k hk=>?_⟩
 simp only [tiC] at hk
 split at hk
 ·rename_i a b n
  obtain ⟨h1,hk⟩:=hk
  have hh:tiG a b n:=by
   rw [tiG_vc]
   simp only [rI,rE,tt3,tt4,tt5,tt13,tt14,rI] at h1
   simp only [rI,and_true,true_and,Nat.zero_lt_one]
   exact h1
  exact ⟨_,plainD nilS_cs nilS_x nilS_ic hh (by simp [plainS,plainS.plainL]),hk⟩
 ·exact hk.elim
theorem gdK_spec {v:SV} {k:(Nat→Tw)→Prop} (h:gdK v k):∃ F,v=gdV F∧k F:=by
 unfold gdK at h
 split at h
 ·exact ⟨_,rfl,h⟩
 ·exact h.elim
theorem crK_spec {v:SV} {k:Crs→Prop} (h:crK v k):∃ c:Crs,v=c.sv∧k c:=by
 unfold crK at h
 split at h
 ·exact ⟨_,rfl,h⟩
 ·exact h.elim
theorem plain_gd (F:Nat→Tw):plainS (gdV F):=by simp [plainS,plainS.plainL,gdV,gdC]
theorem plain_cr (c:Crs):plainS c.sv:=by simp [plainS,plainS.plainL,Crs.sv,Crs.cells]
theorem up_ne {A B:Nat→Tw} {z:Nat}:∀ i,i≠z→upG A B (z+1) i=upG A B z i:=fun i hi=>by
 unfold upG
 by_cases e:i<z
 ·rw [if_pos e,if_pos (by omega)]
 ·rw [if_neg e,if_neg (by omega)]
theorem gp_true {A B:Nat→Tw} (hA:bdG 1000000000000 A) (hB:bdG 1000000000000 B):gpG A B:=by
 rw [gpG_vc]
 simp only [rI,rE,tt3,tt4,tt5,tt13,tt14,rI,rE,tt3,tt4,tt5,tt13,tt14,and_true,true_and,Nat.zero_lt_one,and_self,implies_true,Int.toNat_natCast,Nat.zero_add,Nat.add_zero,Nat.one_mul,Nat.mul_one,Classical.not_not,iff_self,Bool.false_eq_true,imp_false,and_imp,true_implies,forall_const,gdV_cells,sc1]
 have up0:∀ i,upG A B 0 i=A i:=fun i=>by unfold upG; rw [if_neg (by omega)]
 refine ⟨⟨0,by omega,rfl,by simp only [up0,and_self]⟩,fun z hz=>⟨fun hl=>?_,fun hl=>?_⟩⟩
 ·have hz:z<6:=by omega
  have a:=hA z hz
  have b:=hB z hz
  have ez:upG A B z z=A z:=by unfold upG; rw [if_neg (by omega)]
  rw [cz_lo _ hz,cz_hi _ hz,cz_lo _ hz,cz_hi _ hz,ez]
  refine ⟨by omega,by omega,by omega,by omega,by omega,by omega,⟨by omega,by omega⟩,by omega,by omega,by omega,by omega,z+1,by omega,by omega,by omega,?_⟩
  have en:upG A B (z+1) z=adG A B z:=by unfold upG; rw [if_pos (by omega)]
  exact eqs12 (F:=upG A B z) (G:=upG A B (z+1)) (by rw [en]; rfl) (by rw [en]; rfl) up_ne
 ·have:z=6:=by omega
  subst this
  have e:∀ i,i<6→upG A B 6 i=adG A B i:=fun i hi=>by unfold upG; rw [if_pos hi]
  simp only [e 0 (by omega),e 1 (by omega),e 2 (by omega),e 3 (by omega),e 4 (by omega),e 5 (by omega)]
  exact ⟨rfl,rfl,rfl,rfl,rfl,rfl,rfl,rfl,rfl,rfl,rfl,rfl⟩
theorem gp_ok:gpC.Ok Try.prog:=by
 refine ⟨by kernel_rfl,fun x k hk=>?_⟩
 simp only [gpC] at hk
 split at hk
 ·rename_i x y
  obtain ⟨A,rfl,hk2⟩:=gdK_spec hk
  obtain ⟨B,rfl,h1,hk⟩:=gdK_spec hk2
  exact ⟨_,plainD (one_cs pl_ok) nilS_x nilS_ic (gp_true h1.1 h1.2) (plain_gd _),hk⟩
 ·exact hk.elim
theorem sg_true {A B C:Nat→Tw} (hA:bdG 100000000000 A) (hB:bdG 100000000000 B) (hC:bdG 100000000000 C):sgG A B C:=by
 rw [sgG_vc]
 simp only [rI,rE,tt3,tt4,tt5,tt13,tt14,rI,rE,tt3,tt4,tt5,tt13,tt14,and_true,true_and,Nat.zero_lt_one,and_self,implies_true,Int.toNat_natCast,Nat.zero_add,Nat.add_zero,Classical.not_not,iff_self,Bool.false_eq_true,imp_false,and_imp,true_implies,forall_const]
 have z0:=bd_c6 (bd_z (b:=0) (by omega))
 have a:=bd_c6 hA
 have b:=bd_c6 hB
 have c:=bd_c6 hC
 have s1:=bd_c6 (bd_ad z0 a (c:=100000000000) (by omega))
 have s2:=bd_c6 (bd_ad s1 b (c:=200000000000) (by omega))
 and_intros
 all_goals first | omega | exact bd_mono z0 (by omega) | exact bd_mono a (by omega) | exact bd_mono b (by omega) | exact bd_mono c (by omega) | exact bd_mono s1 (by omega) | exact bd_mono s2 (by omega) | rfl | decide
theorem sg_ok:sgC.Ok Try.prog:=by
 refine ⟨by kernel_rfl,fun x k hk=>?_⟩
 simp only [sgC] at hk
 split at hk
 ·rename_i n f
  obtain ⟨hn,hk⟩:=hk
  subst hn
  obtain ⟨A,eA,hk⟩:=gdK_spec hk
  obtain ⟨B,eB,hk⟩:=gdK_spec hk
  obtain ⟨C,eC,h1,hk⟩:=gdK_spec hk
  refine ⟨_,?_,hk⟩
  have hd:=plainD (one_cs gp_ok) (numX_sound nilS_x) nilS_ic (sg_true h1.1 h1.2.1 h1.2.2) (plain_gd _)
  have e:SV.denL [SV.lst 12 3 f]=SV.denL [SV.lst 12 3 (three (gdV A) (gdV B) (gdV C))]:=by
   simp only [SV.denL,SV.den,List.range,List.range.loop,List.map,three,eA,eB,eC]
  rw [e]; exact hd
 ·exact hk.elim
theorem tb_true {s:Sti} {t:Int} (h:okSt s) (ht:okT t):tbG s t:=by
 rw [tbG_vc]
 simp only [rI,rE,tt3,tt4,tt5,tt13,tt14,rI,rE,tt3,tt4,tt5,tt13,tt14,and_true,true_and,Nat.zero_lt_one,and_self,implies_true,Int.toNat_natCast,Nat.zero_add,Nat.add_zero,Classical.not_not,iff_self,Bool.false_eq_true,imp_false,and_imp,true_implies,forall_const]
 have h1:=mul_bd ht.1 ht.2 (by have:=h.t0; omega:0≤s.takes) h.t1
 have e:(0 - t)*s.takes=-(t*s.takes):=by rw [Int.zero_sub,Int.neg_mul]
 have i0:=h.i0
 have i1:=h.i1
 have t0:=ht.1
 have t1:=ht.2
 have ez:tkG s t s.inn.toNat=⟨(0 - t)*s.takes,(0 - t)*s.takes⟩:=by unfold tkG; rw [if_pos (by omega)]
 refine ⟨by omega,by omega,by omega,by omega,by omega,?_⟩
 exact eqs12 (F:=zG) (G:=tkG s t) (z:=s.inn.toNat) (by rw [ez]) (by rw [ez]) fun i hi=>by unfold tkG; rw [if_neg (by omega)]; rfl
theorem tb_ok:tbC.Ok Try.prog:=by
 refine ⟨by kernel_rfl,fun x k hk=>?_⟩
 simp only [tbC] at hk
 split at hk
 ·rename_i a b n h c d t
  obtain ⟨hf,h1,h2,hk⟩:=hk
  have hh:=tb_true h1 h2
  unfold tbG Sti.sv at hh
  simp only at hh
  rw [← hf] at hh
  exact ⟨_,plainD (one_cs ex_ok) nilS_x nilS_ic hh (plain_gd _),hk⟩
 ·exact hk.elim
theorem md_ne {s:Sti} {t:Int} {z:Nat}:∀ i,i≠z→mdG s t (z+1) i=mdG s t z i:=fun i hi=>by
 unfold mdG
 by_cases e:i<z
 ·rw [if_pos e,if_pos (by omega)]
 ·rw [if_neg e,if_neg (by omega)]
theorem mb_true {s:Sti} {t:Int} (h:okSt s) (ht:okT t):mbG s t:=by
 rw [mbG_vc]
 simp only [rI,rE,tt3,tt4,tt5,tt13,tt14,rI,rE,tt3,tt4,tt5,tt13,tt14,and_true,true_and,Nat.zero_lt_one,and_self,implies_true,Int.toNat_natCast,Nat.zero_add,Nat.add_zero,Classical.not_not,iff_self,Bool.false_eq_true,imp_false,and_imp,true_implies,forall_const]
 have up0:∀ i,mdG s t 0 i=⟨0,0⟩:=fun i=>by unfold mdG; rw [if_neg (by omega)]
 refine ⟨⟨0,by omega,rfl,by simp only [up0,and_self]⟩,fun z hz=>⟨fun hl=>?_,fun hl=>?_⟩⟩
 ·have hn:=h.n
  have o:=h.o z (by omega)
  have h1:=mul_bd ht.1 ht.2 o.a (Int.le_trans o.b o.c)
  have h2:=mul_bd ht.1 ht.2 (Int.le_trans o.a o.b) o.c
  refine ⟨by omega,hl,⟨by omega,by omega⟩,by omega,by omega,by omega,by omega,z+1,by omega,by omega,by omega,?_⟩
  have en:mdG s t (z+1) z=⟨t*(s.out z).lo,t*(s.out z).hi⟩:=by unfold mdG; rw [if_pos (by omega)]
  exact eqs12 (F:=mdG s t z) (G:=mdG s t (z+1)) (by rw [en]) (by rw [en]) md_ne
 ·have:z=s.on:=by omega
  subst this
  exact ⟨rfl,rfl,rfl,rfl,rfl,rfl,rfl,rfl,rfl,rfl,rfl,rfl⟩
theorem mb_ok:mbC.Ok Try.prog:=by
 refine ⟨by kernel_rfl,fun x k hk=>?_⟩
 simp only [mbC] at hk
 split at hk
 ·rename_i a b n h c d t
  obtain ⟨hf,h1,h2,hk⟩:=hk
  have hh:=mb_true h1 h2
  unfold mbG Sti.sv at hh
  simp only at hh
  rw [← hf] at hh
  exact ⟨_,plainD (one_cs ti_ok) nilS_x nilS_ic hh (plain_gd _),hk⟩
 ·exact hk.elim
theorem nc_true {n:Nat} {st:Nat→Int} (hn:n≤6):ncG n st:=by
 rw [ncG_vc]
 simp only [rI,rE,tt3,tt4,tt5,tt13,tt14,rI,rE,tt3,tt4,tt5,tt13,tt14,and_true,true_and,Nat.zero_lt_one,and_self,implies_true,Int.toNat_natCast,Nat.zero_add,Nat.add_zero,Classical.not_not,iff_self,Bool.false_eq_true,imp_false,and_imp,true_implies,forall_const]
 have up0:∀ i,(stC 0 st).l i=⟨0,0⟩:=fun i=>by simp only [stC]; rw [if_neg (by omega)]
 refine ⟨⟨0,by omega,rfl,by simp only [up0,and_self]⟩,fun z hz=>⟨fun hl=>?_,fun hl=>?_⟩⟩
 ·refine ⟨by omega,hl,by omega,by omega,by omega,by omega,z+1,by omega,by omega,by omega,?_⟩
  have en:(stC (z+1) st).l z=⟨st z,st z⟩:=by simp only [stC]; rw [if_pos (by omega)]
  have ne:∀ i,i≠z→(stC (z+1) st).l i=(stC z st).l i:=fun i hi=>by
   simp only [stC]
   by_cases e:i<z
   ·rw [if_pos e,if_pos (by omega)]
   ·rw [if_neg e,if_neg (by omega)]
  obtain ⟨g0,g1,g2,g3,g4,g5,g6,g7,g8,g9,g10,g11⟩:=eqs16 (F:=(stC z st).l) (G:=(stC (z+1) st).l) (z:=z) (u:=st z) (v:=st z) (by rw [en]) (by rw [en]) ne
  have w:∀ d,d<4∨15<d→(if 4+z*2+1=d then st z else if 4+z*2=d then st z else 0)=0:=fun d hd=>by rw [if_neg (by omega),if_neg (by omega)]
  exact ⟨w 0 (by omega),w 1 (by omega),w 2 (by omega),w 3 (by omega),g0,g1,g2,g3,g4,g5,g6,g7,g8,g9,g10,g11,w 16 (by omega)⟩
 ·have:z=n:=by omega
  subst this
  and_intros <;> rfl
theorem nc_ok:ncC.Ok Try.prog:=by
 refine ⟨by kernel_rfl,fun x k hk=>?_⟩
 simp only [ncC] at hk
 split at hk
 ·rename_i n f
  obtain ⟨hf,hn,hk⟩:=hk
  have hh:=nc_true (st:=iOf f) hn
  unfold ncG at hh
  rw [← hf] at hh
  exact ⟨_,plainD (one_cs ex_ok) nilS_x nilS_ic hh (plain_cr _),hk⟩
 ·exact hk.elim
theorem ps_l {c:Crs} {a t:Int} (h:0≤a∧a≤3):(psX c a t).l=c.l∧(psX c a t).c=c.c:=by
 refine ⟨funext fun i=>?_,?_⟩
 ·simp only [psX]
  rw [if_neg (by omega),if_neg (by omega)]
 ·simp only [psX]
  rw [if_neg (by omega)]
theorem wi_true {c:Crs} {a:Int} {s:Sti} {t:Int} (ha:0≤a∧a≤3) (h:okSt s) (ht:okT t) (hc:bdC 10000000000 c):wiG c a s t:=by
 rw [wiG_vc]
 simp only [rI,rE,tt3,tt4,tt5,tt13,tt14,rI,rE,tt3,tt4,tt5,tt13,tt14,and_true,true_and,Nat.zero_lt_one,and_self,implies_true,Int.toNat_natCast,Nat.zero_add,Nat.add_zero,Nat.mul_one,Classical.not_not,iff_self,Bool.false_eq_true,imp_false,and_imp,true_implies,forall_const,ft_fold]
 have h1:=mul_bd ht.1 ht.2 (by have:=h.t0; omega:0≤s.takes) h.t1
 have h2:=mul_bd ht.1 ht.2 h.p0 h.p1
 have i0:=h.i0
 have i1:=h.i1
 rw [cr_lo c (by omega:s.inn.toNat<6)]
 obtain ⟨e1,e2⟩:=ps_l (c:=c) (t:=t) ha
 rw [e1]
 refine ⟨by omega,by omega,by omega,by omega,fun hn=>?_,fun hn=>?_⟩
 ·have hcn:¬ canP c s t:=by unfold canP; omega
  rw [wiX,if_neg hcn]
  exact ⟨rfl,rfl,rfl,rfl,rfl,rfl,rfl,rfl,rfl,rfl,rfl,rfl,rfl,rfl,rfl,rfl,rfl,fF hcn⟩
 ·have hcn:canP c s t:=by unfold canP; omega
  rw [wiX,if_pos hcn]
  have hcc:=hc.2
  have e16:(if a.toNat=16 then t else c.c)=c.c:=if_neg (by omega)
  rw [e16]
  have pe:∀ i:Nat,(if a.toNat=i then t else c.p i)=(nxC c a s t).p i:=fun i=>by
   simp only [nxC]
   by_cases e:a.toNat=i
   ·rw [if_pos e,if_pos (by omega)]
   ·rw [if_neg e,if_neg (by omega)]
  refine ⟨by omega,by omega,by omega,rfl,h,ht,rfl,h,ht,⟨bd_c6 (bd_mono hc.1 (by omega)),bd_c6 (bd_mono (bd_tk h ht) (by omega)),bd_c6 (bd_mono (bd_md h ht) (by omega))⟩,by omega,by omega,pe 0,pe 1,pe 2,pe 3,rfl,rfl,rfl,rfl,rfl,rfl,rfl,rfl,rfl,rfl,rfl,rfl,rfl,⟨fun _=>hcn,fun _=>trivial⟩⟩
theorem wi_cs:SoundS Try.prog (ctrs [tbC,mbC,sgC]):=three_cs tb_ok mb_ok sg_ok
theorem wi_ok:wiC.Ok Try.prog:=by
 refine ⟨by kernel_rfl,fun x k hk=>?_⟩
 simp only [wiC] at hk
 split at hk
 ·rename_i v a x b n h y z t
  obtain ⟨c,rfl,hf,h1,h2,h3,h4,hk⟩:=crK_spec hk
  have hh:=wi_true h1 h2 h3 h4
  unfold wiG Sti.sv at hh
  simp only at hh
  rw [← hf] at hh
  exact ⟨_,plainD wi_cs nilS_x nilS_ic hh (by simp [plainS,plainS.plainL,Crs.sv,Crs.cells]),hk⟩
 ·exact hk.elim
end Go.Proofs.Ytbedomoilakcaaa
