import Derived.Test.YtmohedjgoakdjaaQhQhVQi
set_option linter.unusedVariables false
set_option linter.unusedSimpArgs false
namespace Go.Proofs.Ytmohedjgoakdjaa
open Go Go.Lg
attribute [local irreducible] bodyH funS
noncomputable def flR (p:Pn) (f:Nat→Gr):Nat→Int
 | 0=>p.tn
 | k+1=>flR p f k - min (flR p f k) (p.l.at (f k).co.toNat)
noncomputable def flG (p:Pn) (f:Nat→Gr):Nat→Int
 | 0=>0
 | k+1=>flG p f k+min (flR p f k) (p.l.at (f k).co.toNat)*(f k).gv
structure okGr (n:Nat) (f:Nat→Gr):Prop where
 m:n≤6
 h:∀ i,i<n→0≤(f i).co∧(f i).co<6∧0≤(f i).gv∧(f i).gv≤100000
def gfOf (f:Nat→SV) (i:Nat):Gr:=grOf (f i)
noncomputable def fiC:Ctr:=⟨43,fun args k=>match args with
 | [.agg [.int .i64 a,.int .i64 b,.int .i64 c,.int .i64 d,.int .i64 e,.int .i64 f,.int .i64 g,.int .i64 h,.int .i64 u,.int .i64 t],.lst 2 n z]=>SV.lst 2 n z=grL n (gfOf z)∧okP ⟨⟨a,b,c,d,e,f,g,h⟩,u,t⟩∧okGr n (gfOf z)∧k (i6 (flG ⟨⟨a,b,c,d,e,f,g,h⟩,u,t⟩ (gfOf z) n))
 | _=>False⟩
noncomputable def fiG (p:Pn) (n:Nat) (f:Nat→Gr):Prop:=funH Try.prog (ctrs []) noX (ictrs [])
 (oneL 0 (natH (fun k=>k≤n) (fun k=>n - k) 1 (fun k=>mkF 37 [(2,.ptr 0 0 0),(5,i6 (flG p f k)),(6,i6 (flR p f k)),(12,grL n f),(13,i6 n),(14,i6 k)]) (fun k=>mkX [vr 10 p.sv]) fun _=>none)) noL 43 [p.sv,grL n f] (i6 (flG p f n))
open Classical in
noncomputable def ylE (Y:Yd) (a b w:Int):Int:=if drE Y a b=0 then (if w<0∨3<w then 2 else 0) else drE Y a b
noncomputable def ylP (Y:Yd) (a b:Int):List Pn:=poS' Y.m (drS Y a b)
noncomputable def ylJ (Y:Yd) (a b:Int) (w j:Nat):Tw:=⟨sumJ (fun i=>flG ((ylP Y a b).getD i zP) (stA w Y.c) Y.c.n) j,sumJ (fun i=>flG ((ylP Y a b).getD i zP) (stB w Y.c) Y.c.n) j⟩
open Classical in
noncomputable def ylS (Y:Yd) (a b w:Int):Tw:=if ylE Y a b w=0 then ylJ Y a b w.toNat (ylP Y a b).length else ⟨0,0⟩
noncomputable def ylR (Y:Yd) (a b w:Int):SV:=.tup [(ylS Y a b w).sv,i6 (ylE Y a b w)]
noncomputable def csY:CSpec:=ctrs [drC,gdC,grC,poC,fiC,plC]
noncomputable def ylC:Ctr:=⟨18,fun args k=>match args with
 | [.agg [.lst 8 n f,.lst 3 m g],.int .i64 a,.int .i64 b,.int .i64 w]=>SV.lst 8 n f=(clOf n f).sv∧SV.lst 3 m g=(msOf m g).sv∧k (ylR ⟨clOf n f,msOf m g⟩ a b w)
 | _=>False⟩
structure ylI (Y:Yd) (a b w:Int) (k:Nat):Prop where
 e:drE Y a b=0
 w0:0≤w
 w3:w≤3
 k:k≤(ylP Y a b).length
noncomputable def ylG (Y:Yd) (a b w:Int):Prop:=funH Try.prog csY noX (ictrs [])
 (oneL 0 (natH (ylI Y a b w) (fun k=>(ylP Y a b).length - k) 4 (fun k=>mkF 68 [(4,.ptr 0 0 0),(8,.ptr 1 0 0),(10,.ptr 2 0 0),(12,grL Y.c.n (stA w.toNat Y.c)),(13,grL Y.c.n (stB w.toNat Y.c)),(14,.ptr 3 0 0),(47,lP (ylP Y a b)),(48,i6 (ylP Y a b).length),(49,i6 k)])
  (fun k=>mkX [vr 2 Y.sv,vr 2 (Tw.sv ⟨0,0⟩),vr 2 (drS Y a b).sv,vr 2 (ylJ Y a b w.toNat k).sv]) fun _=>none)) noL 18 [Y.sv,i6 a,i6 b,i6 w] (ylR Y a b w)
def eqT (n:Nat) (f g:Nat→Tw):Prop:=∀ i,i<n→(f i).lo=(g i).lo∧(f i).hi=(g i).hi
noncomputable def ltC (g:FuncId):Ctr:=⟨g,fun args k=>match args with
 | [.lst 2 n f,.lst 2 m h]=>SV.lst 2 n f=twL n (fun i=>tOf (f i))∧SV.lst 2 m h=twL m (fun i=>tOf (h i))∧n≤1000∧k (.dec (n=m∧eqT n (fun i=>tOf (f i)) fun i=>tOf (h i)) (Classical.propDecidable _))
 | _=>False⟩
noncomputable def ltG (n:Nat) (f:Nat→Tw) (m:Nat) (h:Nat→Tw):Prop:=funH Try.prog (ctrs []) noX (ictrs [])
 (oneL 0 (natH (fun k=>k≤n∧n=m∧eqT k f h) (fun k=>n - k) 0 (fun k=>mkF 26 [(0,twL n f),(1,twL m h),(5,i6 k)]) (fun _=>mkX []) fun _=>none)) noL 15 [twL n f,twL m h] (.dec (n=m∧eqT n f h) (Classical.propDecidable _))
noncomputable def ltG' (n:Nat) (f:Nat→Tw) (m:Nat) (h:Nat→Tw):Prop:=funH Try.prog (ctrs []) noX (ictrs [])
 (oneL 0 (natH (fun k=>k≤n∧n=m∧eqT k f h) (fun k=>n - k) 0 (fun k=>mkF 26 [(0,twL n f),(1,twL m h),(5,i6 k)]) (fun _=>mkX []) fun _=>none)) noL 20 [twL n f,twL m h] (.dec (n=m∧eqT n f h) (Classical.propDecidable _))
end Go.Proofs.Ytmohedjgoakdjaa

set_option maxRecDepth 100000
namespace Go.Proofs.Ytmohedjgoakdjaa
open Go Go.Lg
theorem fiG_vc (p:Pn) (n:Nat) (f:Nat→Gr):fiG p n f =
((0:Nat)<(1:Nat)∧(∃ (z:Nat),z≤n∧rE (0:Nat)∧rE (0:Nat)∧(0:Int)=flG p f z∧p.3=flR p f z∧n=n∧(∀ (i:Nat),i<n→rE ((f i).sv.den)∧True∧True∧True)∧rE (↑n:Int)∧(0:Int)=(↑z:Int)∧rE p.l.1∧rE p.l.2∧rE p.l.3∧rE p.l.4∧rE p.l.5∧rE p.l.6∧rE p.l.7∧rE p.l.8∧p.2=p.2∧p.3=p.3∧True)∧∀ (z:Nat),z≤n→((↑z:Int)<(↑n:Int)→(0:Int)≤(↑z:Int)∧(↑z:Int)<(↑n:Int)∧(0:Nat)<(1:Nat)∧(0:Int)≤(f (↑z:Int).toNat).1∧(f (↑z:Int).toNat).1<(↑(6:Nat):Int)∧(0:Nat)<(1:Nat)∧(0:Nat)+(f (↑z:Int).toNat).1.toNat*(1:Nat)<(10:Nat)∧(0:Nat)<(1:Nat)∧rI (min (flR p f z) (cellZ p.sv.cells ((0:Nat)+(f (↑z:Int).toNat).1.toNat*(1:Nat)))*(f (↑z:Int).toNat).2)∧rI (flG p f z+min (flR p f z) (cellZ p.sv.cells ((0:Nat)+(f (↑z:Int).toNat).1.toNat*(1 :
Nat)))*(f (↑z:Int).toNat).2)∧rI (flR p f z - min (flR p f z) (cellZ p.sv.cells ((0:Nat)+(f (↑z:Int).toNat).1.toNat*(1:Nat))))∧rI ((↑z:Int)+(1:Int))∧∃ (z_1:Nat),z_1≤n∧n - z_1<n - z∧rE (0:Nat)∧rE (0:Nat)∧flG p f z+min (flR p f z) (cellZ p.sv.cells ((0:Nat)+(f (↑z:Int).toNat).1.toNat*(1:Nat)))*(f (↑z:Int).toNat).2=flG p f z_1∧flR p f z - min (flR p f z) (cellZ p.sv.cells ((0:Nat)+(f (↑z:Int).toNat).1.toNat*(1:Nat)))=flR p f z_1∧n=n∧(∀ (i:Nat),i<n→rE ((f i).sv.den)∧True∧True∧True)∧rE (↑n:Int)∧(↑z:Int)+(1:Int)=(↑z_1:Int)∧rE p.l.1∧rE p.l.2∧rE p.l.3∧rE p.l.4∧rE p.l.5∧rE p.l.6∧rE p.l.7∧rE p.l.8∧p.2=p.2∧p.3=p.3∧True)∧(¬(↑z:Int)<(↑n:Int)→flG p f z=flG p f n∧True)):=by kernel_rfl
def ylG0 (Y:Yd) (a:Int) (b:Int) (w:Int) (z:Nat):Prop:=((↑z:Int)<(↑(ylP Y a b).length:Int)→(0:Int)≤(↑z:Int)∧(↑z:Int)<(↑(ylP Y a b).length:Int)∧(0:Nat)<(1:Nat)∧(0:Nat)<(1:Nat)∧(∀ (i:Nat),i<Y.c.1→True∧True∧True)∧(SV.lst (2:Nat) Y.c.n fun i=>(stA w.toNat Y.c i).sv)=grL Y.c.n (gfOf fun i=>(stA w.toNat Y.c i).sv)∧okP (Pn.mk (La.mk ((ylP Y a b).getD (↑z:Int).toNat zP).l.c0 ((ylP Y a b).getD (↑z:Int).toNat zP).l.c1 ((ylP Y a b).getD (↑z:Int).toNat zP).l.c2 ((ylP Y a b).getD (↑z:Int).toNat zP).l.c3 ((ylP Y a b).getD (↑z:Int).toNat zP).l.c4 ((ylP Y a b).getD (↑z:Int).toNat zP).l.c5 ((ylP Y a b).getD (↑z:Int).toNat zP).l.fr ((ylP Y a b).getD (↑z:Int).toNat zP).l.to) ((ylP Y a b).getD (↑z:Int).toNat zP).nu ((ylP Y a b).getD (↑z:Int).toNat zP).tn)∧okGr Y.c.n (gfOf fun i=>(stA w.toNat Y.c i).sv)∧(0:Nat)<(1:Nat)∧(∀ (i:Nat),i<Y.c.1→True∧True∧True)∧(SV.lst (2:Nat) Y.c.n fun i=>(stB w.toNat Y.c i).sv)=grL Y.c.n (gfOf fun i=>(stB w.toNat Y.c i).sv)∧okP (Pn.mk (La.mk ((ylP Y a b).getD (↑z:Int).toNat zP).l.c0 ((ylP Y a b).getD (↑z:Int).toNat zP).l.c1 ((ylP Y a b).getD (↑z:Int).toNat zP).l.c2 ((ylP Y a b).getD (↑z:Int).toNat zP).l.c3 ((ylP Y a b).getD (↑z:Int).toNat zP).l.c4 ((ylP Y a b).getD (↑z:Int).toNat zP).l.c5 ((ylP Y a b).getD (↑z:Int).toNat zP).l.fr ((ylP Y a b).getD (↑z:Int).toNat zP).l.to) ((ylP Y a b).getD (↑z:Int).toNat zP).nu ((ylP Y a b).getD (↑z:Int).toNat zP).tn)∧okGr Y.c.n (gfOf fun i=>(stB w.toNat Y.c i).sv)∧(rI ((ylJ Y a b w.toNat z).lo+flG (Pn.mk (La.mk ((ylP Y a b).getD (↑z:Int).toNat zP).l.c0 ((ylP Y a b).getD (↑z:Int).toNat zP).l.c1 ((ylP Y a b).getD (↑z:Int).toNat zP).l.c2 ((ylP Y a b).getD (↑z:Int).toNat zP).l.c3 ((ylP Y a b).getD (↑z:Int).toNat zP).l.c4 ((ylP Y a b).getD (↑z:Int).toNat zP).l.c5 ((ylP Y a b).getD (↑z:Int).toNat zP).l.fr ((ylP Y a b).getD (↑z:Int).toNat zP).l.to) ((ylP Y a b).getD (↑z:Int).toNat zP).nu ((ylP Y a b).getD (↑z:Int).toNat zP).tn) (gfOf fun i=>(stA w.toNat Y.c i).sv) Y.c.n)∧rI ((ylJ Y a b w.toNat z).hi+flG (Pn.mk (La.mk ((ylP Y a b).getD (↑z:Int).toNat zP).l.c0 ((ylP Y a b).getD (↑z:Int).toNat zP).l.c1 ((ylP Y a b).getD (↑z:Int).toNat zP).l.c2 ((ylP Y a b).getD (↑z:Int).toNat zP).l.c3 ((ylP Y a b).getD (↑z:Int).toNat zP).l.c4 ((ylP Y a b).getD (↑z:Int).toNat zP).l.c5 ((ylP Y a b).getD (↑z:Int).toNat zP).l.fr ((ylP Y a b).getD (↑z:Int).toNat zP).l.to) ((ylP Y a b).getD (↑z:Int).toNat zP).nu ((ylP Y a b).getD (↑z:Int).toNat zP).tn) (gfOf fun i=>(stB w.toNat Y.c i).sv) Y.c.n))∧rI ((↑z:Int)+(1:Int))∧∃ (z_1:Nat),ylI Y a b w z_1∧(ylP Y a b).length - z_1<(ylP Y a b).length - z∧rE (0:Nat)∧rE (0:Nat)∧rE (0:Nat)∧rE (0:Nat)∧rE (0:Nat)∧rE (0:Nat)∧rE Y.c.1∧(∀ (i:Nat),i<Y.c.1→rE ((stA w.toNat Y.c i).sv.den)∧True∧True∧True)∧rE Y.c.1∧(∀ (i:Nat),i<Y.c.1→rE ((stB w.toNat Y.c i).sv.den)∧True∧True∧True)∧rE (0:Nat)∧rE (0:Nat)∧rE ((ylP Y a b).length)∧(∀ (i:Nat),i<(ylP Y a b).length→rE (((ylP Y a b).getD i zP).sv.den)∧True∧True∧True∧True∧True∧True∧True∧True∧True∧True∧True)∧rE (↑(ylP Y a b).length:Int)∧(↑z:Int)+(1:Int)=(↑z_1:Int)∧rE Y.c.1∧(∀ (i:Nat),i<Y.c.1→rE ((Y.c.f i).sv.den)∧True∧True∧True∧True∧True∧True∧True∧True∧True)∧rE Y.m.1∧(∀ (i:Nat),i<Y.m.1→rE ((Y.m.f i).sv.den)∧True∧True∧True∧True)∧rE (0:Int)∧rE (0:Int)∧rE ((drS Y a b).1)∧rE ((drS Y a b).2)∧sumJ (fun i=>flG ((ylP Y a b).getD i zP) (stA w.toNat Y.c) Y.c.n) z+flG (Pn.mk (La.mk ((ylP Y a b).getD (↑z:Int).toNat zP).l.c0 ((ylP Y a b).getD (↑z:Int).toNat zP).l.c1 ((ylP Y a b).getD (↑z:Int).toNat zP).l.c2 ((ylP Y a b).getD (↑z:Int).toNat zP).l.c3 ((ylP Y a b).getD (↑z:Int).toNat zP).l.c4 ((ylP Y a b).getD (↑z:Int).toNat zP).l.c5 ((ylP Y a b).getD (↑z:Int).toNat zP).l.fr ((ylP Y a b).getD (↑z:Int).toNat zP).l.to) ((ylP Y a b).getD (↑z:Int).toNat zP).nu ((ylP Y a b).getD (↑z:Int).toNat zP).tn) (gfOf fun i=>(stA w.toNat Y.c i).sv) Y.c.1=sumJ (fun i=>flG ((ylP Y a b).getD i zP) (stA w.toNat Y.c) Y.c.n) z_1∧sumJ (fun i=>flG ((ylP Y a b).getD i zP) (stB w.toNat Y.c) Y.c.n) z+flG (Pn.mk (La.mk ((ylP Y a b).getD (↑z:Int).toNat zP).l.c0 ((ylP Y a b).getD (↑z:Int).toNat zP).l.c1 ((ylP Y a b).getD (↑z:Int).toNat zP).l.c2 ((ylP Y a b).getD (↑z:Int).toNat zP).l.c3 ((ylP Y a b).getD (↑z:Int).toNat zP).l.c4 ((ylP Y a b).getD (↑z:Int).toNat zP).l.c5 ((ylP Y a b).getD (↑z:Int).toNat zP).l.fr ((ylP Y a b).getD (↑z:Int).toNat zP).l.to) ((ylP Y a b).getD (↑z:Int).toNat zP).nu ((ylP Y a b).getD (↑z:Int).toNat zP).tn) (gfOf fun i=>(stB w.toNat Y.c i).sv) Y.c.1=sumJ (fun i=>flG ((ylP Y a b).getD i zP) (stB w.toNat Y.c) Y.c.n) z_1∧True)
def ylG1 (Y:Yd) (a:Int) (b:Int) (w:Int) (z:Nat):Prop:=(∃ (z_1:Nat),ylI Y a b w z_1∧rE (0:Nat)∧rE (0:Nat)∧rE (0:Nat)∧rE (0:Nat)∧rE (0:Nat)∧rE (0:Nat)∧rE Y.c.1∧(∀ (i_2:Nat),i_2<Y.c.1→(stA z (clOf Y.c.n fun i=>(Y.c.f i).sv) i_2).sv.den=(stA w.toNat Y.c i_2).sv.den∧True∧True∧True)∧rE Y.c.1∧(∀ (i_2:Nat),i_2<Y.c.1→(stB z (clOf Y.c.n fun i=>(Y.c.f i).sv) i_2).sv.den=(stB w.toNat Y.c i_2).sv.den∧True∧True∧True)∧rE (0:Nat)∧rE (0:Nat)∧(poM (msOf Y.m.n fun i=>(Y.m.f i).sv) (Tw.mk (drS (Yd.mk (clOf Y.c.n fun i=>(Y.c.f i).sv) (msOf Y.m.n fun i=>(Y.m.f i).sv)) a b).lo (drS (Yd.mk (clOf Y.c.n fun i=>(Y.c.f i).sv) (msOf Y.m.n fun i=>(Y.m.f i).sv)) a b).hi) (lyL (msOf Y.m.n fun i=>(Y.m.f i).sv) Y.m.n).length).length=(ylP Y a b).length∧(∀ (i:Nat),i<(ylP Y a b).length→((poM (msOf Y.m.n fun i=>(Y.m.f i).sv) (Tw.mk (drS (Yd.mk (clOf Y.c.n fun i=>(Y.c.f i).sv) (msOf Y.m.n fun i=>(Y.m.f i).sv)) a b).lo (drS (Yd.mk (clOf Y.c.n fun i=>(Y.c.f i).sv) (msOf Y.m.n fun i=>(Y.m.f i).sv)) a b).hi) (lyL (msOf Y.m.n fun i=>(Y.m.f i).sv) Y.m.n).length).getD i zP).sv.den=((ylP Y a b).getD i zP).sv.den∧True∧True∧True∧True∧True∧True∧True∧True∧True∧True∧True)∧(↑(poM (msOf Y.m.n fun i=>(Y.m.f i).sv) (Tw.mk (drS (Yd.mk (clOf Y.c.n fun i=>(Y.c.f i).sv) (msOf Y.m.n fun i=>(Y.m.f i).sv)) a b).lo (drS (Yd.mk (clOf Y.c.n fun i=>(Y.c.f i).sv) (msOf Y.m.n fun i=>(Y.m.f i).sv)) a b).hi) (lyL (msOf Y.m.n fun i=>(Y.m.f i).sv) Y.m.n).length).length:Int)=(↑(ylP Y a b).length:Int)∧(0:Int)=(↑z_1:Int)∧rE Y.c.1∧(∀ (i:Nat),i<Y.c.1→rE ((Y.c.f i).sv.den)∧True∧True∧True∧True∧True∧True∧True∧True∧True)∧rE Y.m.1∧(∀ (i:Nat),i<Y.m.1→rE ((Y.m.f i).sv.den)∧True∧True∧True∧True)∧rE (0:Int)∧rE (0:Int)∧(drS (Yd.mk (clOf Y.c.n fun i=>(Y.c.f i).sv) (msOf Y.m.n fun i=>(Y.m.f i).sv)) a b).1=(drS Y a b).1∧(drS (Yd.mk (clOf Y.c.n fun i=>(Y.c.f i).sv) (msOf Y.m.n fun i=>(Y.m.f i).sv)) a b).2=(drS Y a b).2∧(0:Int)=sumJ (fun i=>flG ((ylP Y a b).getD i zP) (stA w.toNat Y.c) Y.c.n) z_1∧(0:Int)=sumJ (fun i=>flG ((ylP Y a b).getD i zP) (stB w.toNat Y.c) Y.c.n) z_1∧True)
def ylG2 (Y:Yd) (a:Int) (b:Int):Prop:=((-1000000000:Int)≤(drS (Yd.mk (clOf Y.c.n fun i=>(Y.c.f i).sv) (msOf Y.m.n fun i=>(Y.m.f i).sv)) a b).1∧(drS (Yd.mk (clOf Y.c.n fun i=>(Y.c.f i).sv) (msOf Y.m.n fun i=>(Y.m.f i).sv)) a b).1≤(1000000000:Int)∧(-1000000000:Int)≤(drS (Yd.mk (clOf Y.c.n fun i=>(Y.c.f i).sv) (msOf Y.m.n fun i=>(Y.m.f i).sv)) a b).2∧(drS (Yd.mk (clOf Y.c.n fun i=>(Y.c.f i).sv) (msOf Y.m.n fun i=>(Y.m.f i).sv)) a b).2≤(1000000000:Int))
def ylG3 (Y:Yd) (a:Int) (b:Int) (w:Int) (z:Nat):Prop:=(¬(↑z:Int)<(↑(ylP Y a b).length:Int)→(0:Nat)<(1:Nat)∧(0:Nat)<(1:Nat)∧(0:Nat)<(1:Nat)∧sumJ (fun i=>flG ((ylP Y a b).getD i zP) (stA w.toNat Y.c) Y.c.n) z=(ylS Y a b w).1∧sumJ (fun i=>flG ((ylP Y a b).getD i zP) (stB w.toNat Y.c) Y.c.n) z=(ylS Y a b w).2∧(0:Int)=ylE Y a b w∧True)
def ylG4 (Y:Yd):Prop:=(∀ (i:Nat),i<Y.c.1→True∧True∧True∧True∧True∧True∧True∧True∧True)
theorem ylG_vc (Y:Yd) (a:Int) (b:Int) (w:Int):ylG Y a b w =
((0:Nat)<(1:Nat)∧(ylG4 Y)∧(∀ (i:Nat),i<Y.m.1→True∧True∧True∧True)∧(SV.lst (8:Nat) Y.c.n fun i=>(Y.c.f i).sv)=(clOf Y.c.n fun i=>(Y.c.f i).sv).sv∧(SV.lst (3:Nat) Y.m.n fun i=>(Y.m.f i).sv)=(msOf Y.m.n fun i=>(Y.m.f i).sv).sv∧(¬drE (Yd.mk (clOf Y.c.n fun i=>(Y.c.f i).sv) (msOf Y.m.n fun i=>(Y.m.f i).sv)) a b=(0:Int)→(0:Nat)<(1:Nat)∧(0:Int)=(ylS Y a b w).1∧(0:Int)=(ylS Y a b w).2∧drE (Yd.mk (clOf Y.c.n fun i=>(Y.c.f i).sv) (msOf Y.m.n fun i=>(Y.m.f i).sv)) a b=ylE Y a b w∧True)∧(¬¬drE (Yd.mk (clOf Y.c.n fun i=>(Y.c.f i).sv) (msOf Y.m.n fun i=>(Y.m.f i).sv)) a b=(0:Int)→(w<(0:Int)→(0:Nat)<(1:Nat)∧(0:Int)=(ylS Y a b w).1∧(0:Int)=(ylS Y a b w).2∧(2:Int)=ylE Y a b w∧True)∧(¬w<(0:Int)→((3:Int)<w→(0:Nat)<(1:Nat)∧(0:Int)=(ylS Y a b w).1∧(0 :
Int)=(ylS Y a b w).2∧(2:Int)=ylE Y a b w∧True)∧(¬(3:Int)<w→(0:Nat)<(1:Nat)∧(0:Int)≤w∧w<(↑(4:Nat):Int)∧w.toNat*(1:Nat)<(4:Nat)∧(((True∧(w.toNat*(1:Nat)=(0:Nat)→(ylG4 Y)∧(SV.lst (8:Nat) Y.c.n fun i=>(Y.c.f i).sv)=(clOf Y.c.n fun i=>(Y.c.f i).sv).sv∧Y.c.1≤(6:Nat)∧∃ (z:Nat),z<(4:Nat)∧SV.val (Value.func (Fn.func (60:Nat)) #[] #[])=fv ((60:Nat)+z)∧(0:Nat)<(1:Nat)∧(0:Nat)<(1:Nat)∧(∀ (i:Nat),i<Y.m.1→True∧True∧True∧True)∧(SV.lst (3:Nat) Y.m.n fun i=>(Y.m.f i).sv)=(msOf Y.m.n fun i=>(Y.m.f i).sv).sv∧lyP (msOf Y.m.n fun i=>(Y.m.f i).sv)∧(ylG2 Y a b)∧(ylG1 Y a b w z)∧∀ (z:Nat),ylI Y a b w z→(ylG0 Y a b w z)∧(ylG3 Y a b w z)))∧(w.toNat*(1:Nat)=(1:Nat)→(ylG4 Y)∧(SV.lst (8:Nat) Y.c.n fun i=>(Y.c.f i).sv)=(clOf Y.c.n fun i =>
(Y.c.f i).sv).sv∧Y.c.1≤(6:Nat)∧∃ (z:Nat),z<(4:Nat)∧SV.val (Value.func (Fn.func (61:Nat)) #[] #[])=fv ((60:Nat)+z)∧(0:Nat)<(1:Nat)∧(0:Nat)<(1:Nat)∧(∀ (i:Nat),i<Y.m.1→True∧True∧True∧True)∧(SV.lst (3:Nat) Y.m.n fun i=>(Y.m.f i).sv)=(msOf Y.m.n fun i=>(Y.m.f i).sv).sv∧lyP (msOf Y.m.n fun i=>(Y.m.f i).sv)∧(ylG2 Y a b)∧(ylG1 Y a b w z)∧∀ (z:Nat),ylI Y a b w z→(ylG0 Y a b w z)∧(ylG3 Y a b w z)))∧(w.toNat*(1:Nat)=(2:Nat)→(ylG4 Y)∧(SV.lst (8:Nat) Y.c.n fun i=>(Y.c.f i).sv)=(clOf Y.c.n fun i=>(Y.c.f i).sv).sv∧Y.c.1≤(6:Nat)∧∃ (z:Nat),z<(4:Nat)∧SV.val (Value.func (Fn.func (62:Nat)) #[] #[])=fv ((60:Nat)+z)∧(0:Nat)<(1:Nat)∧(0:Nat)<(1:Nat)∧(∀ (i:Nat),i<Y.m.1→True∧True∧True∧True)∧(SV.lst (3:Nat) Y.m.n fun i=>(Y.m.f i).sv)=(msOf Y.m.n
fun i=>(Y.m.f i).sv).sv∧lyP (msOf Y.m.n fun i=>(Y.m.f i).sv)∧(ylG2 Y a b)∧(ylG1 Y a b w z)∧∀ (z:Nat),ylI Y a b w z→(ylG0 Y a b w z)∧(ylG3 Y a b w z)))∧(w.toNat*(1:Nat)=(3:Nat)→(ylG4 Y)∧(SV.lst (8:Nat) Y.c.n fun i=>(Y.c.f i).sv)=(clOf Y.c.n fun i=>(Y.c.f i).sv).sv∧Y.c.1≤(6:Nat)∧∃ (z:Nat),z<(4:Nat)∧SV.val (Value.func (Fn.func (63:Nat)) #[] #[])=fv ((60:Nat)+z)∧(0:Nat)<(1:Nat)∧(0:Nat)<(1:Nat)∧(∀ (i:Nat),i<Y.m.1→True∧True∧True∧True)∧(SV.lst (3:Nat) Y.m.n fun i=>(Y.m.f i).sv)=(msOf Y.m.n fun i=>(Y.m.f i).sv).sv∧lyP (msOf Y.m.n fun i=>(Y.m.f i).sv)∧(ylG2 Y a b)∧(ylG1 Y a b w z)∧∀ (z:Nat),ylI Y a b w z→(ylG0 Y a b w z)∧(ylG3 Y a b w z)))))):=by kernel_rfl
theorem ltG_vc (n:Nat) (f:Nat→Tw) (m:Nat) (h:Nat→Tw):ltG n f m h =
((¬(↑n:Int)=(↑m:Int)→(false=true↔n=m∧eqT n f h)∧True)∧(¬¬(↑n:Int)=(↑m:Int)→(∃ (z:Nat),(z≤n∧n=m∧eqT z f h)∧n=n∧(∀ (i:Nat),i<n→rE ((f i).sv.den)∧True∧True∧True)∧m=m∧(∀ (i:Nat),i<m→rE ((h i).sv.den)∧True∧True∧True)∧(0:Int)=(↑z:Int)∧True)∧∀ (z:Nat),z≤n∧n=m∧eqT z f h→((↑z:Int)<(↑n:Int)→(0:Int)≤(↑z:Int)∧(↑z:Int)<(↑n:Int)∧(0:Int)≤(↑z:Int)∧(↑z:Int)<(↑m:Int)∧(¬((f (↑z:Int).toNat).1=(h (↑z:Int).toNat).1∧(f (↑z:Int).toNat).2=(h (↑z:Int).toNat).2)→(false=true↔n=m∧eqT n f h)∧True)∧(¬¬((f (↑z:Int).toNat).1=(h (↑z:Int).toNat).1∧(f (↑z:Int).toNat).2=(h (↑z:Int).toNat).2)→rI ((↑z:Int)+(1:Int))∧∃ (z_1:Nat),(z_1≤n∧n=m∧eqT z_1 f h)∧n - z_1<n - z∧n=n∧(∀ (i:Nat),i<n→rE ((f i).sv.den)∧True
∧ True∧True)∧m=m∧(∀ (i:Nat),i<m→rE ((h i).sv.den)∧True∧True∧True)∧(↑z:Int)+(1:Int)=(↑z_1:Int)∧True))∧(¬(↑z:Int)<(↑n:Int)→(rE true↔n=m∧eqT n f h)∧True))):=by kernel_rfl
theorem ltG'_vc (n:Nat) (f:Nat→Tw) (m:Nat) (h:Nat→Tw):ltG' n f m h =
((¬(↑n:Int)=(↑m:Int)→(false=true↔n=m∧eqT n f h)∧True)∧(¬¬(↑n:Int)=(↑m:Int)→(∃ (z:Nat),(z≤n∧n=m∧eqT z f h)∧n=n∧(∀ (i:Nat),i<n→rE ((f i).sv.den)∧True∧True∧True)∧m=m∧(∀ (i:Nat),i<m→rE ((h i).sv.den)∧True∧True∧True)∧(0:Int)=(↑z:Int)∧True)∧∀ (z:Nat),z≤n∧n=m∧eqT z f h→((↑z:Int)<(↑n:Int)→(0:Int)≤(↑z:Int)∧(↑z:Int)<(↑n:Int)∧(0:Int)≤(↑z:Int)∧(↑z:Int)<(↑m:Int)∧(¬((f (↑z:Int).toNat).1=(h (↑z:Int).toNat).1∧(f (↑z:Int).toNat).2=(h (↑z:Int).toNat).2)→(false=true↔n=m∧eqT n f h)∧True)∧(¬¬((f (↑z:Int).toNat).1=(h (↑z:Int).toNat).1∧(f (↑z:Int).toNat).2=(h (↑z:Int).toNat).2)→rI ((↑z:Int)+(1:Int))∧∃ (z_1:Nat),(z_1≤n∧n=m∧eqT z_1 f h)∧n - z_1<n - z∧n=n∧(∀ (i:Nat),i<n→rE ((f i).sv.den)∧True
∧ True∧True)∧m=m∧(∀ (i:Nat),i<m→rE ((h i).sv.den)∧True∧True∧True)∧(↑z:Int)+(1:Int)=(↑z_1:Int)∧True))∧(¬(↑z:Int)<(↑n:Int)→(rE true↔n=m∧eqT n f h)∧True))):=by kernel_rfl
end Go.Proofs.Ytmohedjgoakdjaa

set_option maxRecDepth 100000
namespace Go.Proofs.Ytmohedjgoakdjaa
open Go Go.Lg
attribute [local irreducible] funS bodyH
theorem mul_bd {t g T G:Int} (h1:0≤t) (h2:t≤T) (h3:0≤g) (h4:g≤G):0≤t*g∧t*g≤T*G :=
 ⟨Int.mul_nonneg h1 h3,Int.mul_le_mul h2 h4 h3 (by omega)⟩
theorem fl_bd {p:Pn} {n:Nat} {f:Nat→Gr} (hp:okP p) (hf:okGr n f):∀ k,k≤n→(0≤flR p f k∧flR p f k≤33554432)∧0≤flG p f k∧flG p f k≤k*3355443200000
 | 0,_=>⟨hp.t,by simp [flG]⟩
 | k+1,hk=>by
  have ih:=fl_bd hp hf k (by omega)
  have g:=hf.h k (by omega)
  have c:=cell_bd hp.l (i:=(f k).co.toNat) (by omega)
  have e2:p.l.at (f k).co.toNat=cellZ p.l.sv.cells (f k).co.toNat:=rfl
  rw [← e2] at c
  have m:=mul_bd (t:=min (flR p f k) (p.l.at (f k).co.toNat)) (g:=(f k).gv) (T:=33554432) (G:=100000) (by omega) (by omega) g.2.2.1 g.2.2.2
  simp only [flR,flG]
  have e:(((k+1:Nat):Int))*3355443200000=k*3355443200000+3355443200000:=by push_cast; omega
  rw [e]
  omega
theorem fi_true {p:Pn} {n:Nat} {f:Nat→Gr} (hp:okP p) (hf:okGr n f):fiG p n f:=by
 rw [fiG_vc]
 have e:∀ i,cellZ ((SRow.v (Try.prog.cellsOf 86) (sev (Nat.succ 36) (frmS (Nat.succ 36) [p.sv,grL n f] 0 Tr.nil) (Operand.tmp 0))).f 0).cells i=cellZ p.sv.cells i:=fun i=>rfl
 simp only [rI,rE,tt3,tt4,tt5,tt13,tt14,rI,rE,tt3,tt4,tt5,tt13,tt14,and_true,true_and,Nat.zero_lt_one,and_self,implies_true,Int.toNat_natCast,Nat.zero_add,Nat.add_zero,Nat.one_mul,Nat.mul_one,Classical.not_not,iff_self,Bool.false_eq_true,imp_false,and_imp,true_implies,forall_const,e]
 refine ⟨⟨0,by omega,rfl,rfl,rfl⟩,fun z hz=>⟨fun hl=>?_,fun hl=>?_⟩⟩
 ·have hz:z<n:=by omega
  have g:=hf.h z hz
  rw [at_eq p (by omega)]
  have b:=fl_bd hp hf z (by omega)
  have b2:=fl_bd hp hf (z+1) (by omega)
  have hn:=hf.m
  have c:=cell_bd hp.l (i:=(f z).co.toNat) (by omega)
  have e2:p.l.at (f z).co.toNat=cellZ p.l.sv.cells (f z).co.toNat:=rfl
  rw [← e2] at c
  have m:=mul_bd (t:=min (flR p f z) (p.l.at (f z).co.toNat)) (g:=(f z).gv) (T:=33554432) (G:=100000) (by omega) (by omega) g.2.2.1 g.2.2.2
  exact ⟨by omega,hl,g.1,by omega,by omega,by omega,by omega,by omega,by omega,z+1,by omega,by omega,rfl,rfl,by omega⟩
 ·have:z=n:=by omega
  subst this; rfl
theorem fi_ok:fiC.Ok Try.prog:=by
 refine ⟨by kernel_rfl,fun x k hk=>?_⟩
 simp only [fiC] at hk
 split at hk
 ·rename_i a b c d e f g h u t n z
  obtain ⟨hf,h1,h2,hk⟩:=hk
  have hh:=fi_true (p:=⟨⟨a,b,c,d,e,f,g,h⟩,u,t⟩) h1 h2
  unfold fiG at hh
  rw [← hf] at hh
  exact ⟨_,plainD nilS_cs nilS_x nilS_ic hh trivial,hk⟩
 ·exact hk.elim
theorem swp_bd {P:Gr→Prop} {f:Nat→Gr} {q j:Nat} (h:∀ k,k<q→P (f k)) (hj:j<q):∀ k,k<q→P (swp f j k):=fun k hk=>by
 unfold swp
 split
 ·exact h j hj
 ·split
  ·exact h _ (by omega)
  ·exact h k hk
theorem inF_bd {P:Gr→Prop} {w q:Nat}:∀ {j:Nat} {f:Nat→Gr},(∀ k,k<q→P (f k))→j<q→∀ k,k<q→P (inF w f j k)
 | 0,f,h,_,k,hk=>h k hk
 | j+1,f,h,hj,k,hk=>by
  simp only [inF]
  split
  ·exact inF_bd (swp_bd h hj) (by omega) k hk
  ·exact h k hk
theorem stF_bd {P:Gr→Prop} {w q:Nat} {g:Nat→Gr} (h:∀ k,k<q→P (g k)):∀ i,i≤q→∀ k,k<q→P (stF w g i k)
 | 0,_,k,hk=>h k hk
 | i+1,hi,k,hk=>by
  simp only [stF]
  exact inF_bd (fun k hk=>stF_bd h i (by omega) k hk) (by omega) k hk
theorem sp_ok {w:Nat} {c:Co} (h:okCo c):okSp (spT w c).lo (spT w c).hi:=by
 match w with
 | 0=>exact h.g
 | 1=>exact h.t
 | 2=>exact h.s
 | _+3=>exact h.k
theorem st_ok {w:Nat} {C:Cl} (h:okCl C):okGr C.n (stA w C)∧okGr C.n (stB w C):=by
 have hn:=h.b
 refine ⟨⟨h.b,fun i hi=>stF_bd (P:=fun g=>0≤g.co∧g.co<6∧0≤g.gv∧g.gv≤100000) (fun k hk=>?_) C.n (Nat.le_refl _) i hi⟩,⟨h.b,fun i hi=>stF_bd (P:=fun g=>0≤g.co∧g.co<6∧0≤g.gv∧g.gv≤100000) (fun k hk=>?_) C.n (Nat.le_refl _) i hi⟩⟩
 ·have s:=sp_ok (w:=w) (h.h k hk)
  have a:=s.a
  have b:=s.b
  have c:=s.c
  simp only [gA]; omega
 ·have s:=sp_ok (w:=w) (h.h k hk)
  have a:=s.a
  have b:=s.b
  have c:=s.c
  simp only [gB]; omega
theorem ylE_e {Y:Yd} {a b w:Int} (h:drE Y a b≠0):ylE Y a b w=drE Y a b:=if_neg h
theorem ylE_2 {Y:Yd} {a b w:Int} (h:drE Y a b=0) (h2:w<0∨3<w):ylE Y a b w=2:=by rw [ylE,if_pos h,if_pos h2]
theorem ylE_0 {Y:Yd} {a b w:Int} (h:drE Y a b=0) (h2:¬ (w<0∨3<w)):ylE Y a b w=0:=by rw [ylE,if_pos h,if_neg h2]
theorem ylS_n {Y:Yd} {a b w:Int} (h:ylE Y a b w≠0):ylS Y a b w=⟨0,0⟩:=if_neg h
theorem ylS_y {Y:Yd} {a b w:Int} (h:ylE Y a b w=0):ylS Y a b w=ylJ Y a b w.toNat (ylP Y a b).length:=if_pos h
theorem yl_okP {Y:Yd} {a b:Int} (h:ckY Y=0) {p:Pn} (hp:p ∈ ylP Y a b):okP p:=(po_mem (ck_ly h) (lyN Y.m) (Nat.le_refl _) p hp).1
theorem ylJ_bd {Y:Yd} {a b:Int} {w:Nat} (h:ckY Y=0):∀ j,j≤(ylP Y a b).length→(0≤(ylJ Y a b w j).lo∧(ylJ Y a b w j).lo≤j*20132659200000)∧0≤(ylJ Y a b w j).hi∧(ylJ Y a b w j).hi≤j*20132659200000
 | 0,_=>by simp [ylJ,sumJ]
 | j+1,hj=>by
  have ih:=ylJ_bd (a:=a) (b:=b) (w:=w) h j (by omega)
  have hp:=yl_okP h (getD_mem (l:=ylP Y a b) (d:=zP) (i:=j) (by omega))
  have hc:=(ck_0 h).1
  have hn:=hc.b
  have f1:=fl_bd hp (st_ok (w:=w) hc).1 Y.c.n (Nat.le_refl _)
  have f2:=fl_bd hp (st_ok (w:=w) hc).2 Y.c.n (Nat.le_refl _)
  have e:(((j+1:Nat):Int))*20132659200000=j*20132659200000+20132659200000:=by push_cast; omega
  rw [e]
  simp only [ylJ,sumJ] at ih ⊢
  omega
theorem gf_fold (f:Nat→Gr):(gfOf fun i=>(f i).sv)=f:=rfl
theorem grl_fold (n:Nat) (f:Nat→Gr):(SV.lst 2 n fun i=>(f i).sv)=grL n f:=rfl
theorem yl_true (Y:Yd) (a b w:Int):ylG Y a b w:=by
 rw [ylG_vc]
 have e0:Yd.mk Y.c Y.m=Y:=rfl
 have e1:∀ t:Tw,Tw.mk t.lo t.hi=t:=fun t=>rfl
 have e2:∀ p:Pn,Pn.mk ⟨p.l.c0,p.l.c1,p.l.c2,p.l.c3,p.l.c4,p.l.c5,p.l.fr,p.l.to⟩ p.nu p.tn=p:=fun p=>rfl
 have e3:∀ l:La,La.mk l.c0 l.c1 l.c2 l.c3 l.c4 l.c5 l.fr l.to=l:=fun l=>rfl
 have e4:poM Y.m (drS Y a b) (lyL Y.m Y.m.n).length=ylP Y a b:=rfl
 simp only [ylG0,ylG1,ylG2,ylG3,ylG4,rI,rE,tt3,tt4,tt5,tt13,tt14,rI,rE,tt3,tt4,tt5,tt13,tt14,and_true,true_and,Nat.zero_lt_one,and_self,implies_true,Int.toNat_natCast,Nat.zero_add,Nat.add_zero,Nat.one_mul,Nat.mul_one,Classical.not_not,iff_self,Bool.false_eq_true,imp_false,and_imp,true_implies,forall_const,ms_fold,cl_fold,mv_fold,cv_fold,e0,e1,e2,e3,e4,gf_fold,grl_fold]
 have bad:ylE Y a b w≠0→0=(ylS Y a b w).lo∧0=(ylS Y a b w).hi:=fun h=>by rw [ylS_n h]; exact ⟨rfl,rfl⟩
 refine ⟨fun h=>?_,fun h=>⟨fun h1=>?_,fun h1=>⟨fun h2=>?_,fun h2=>?_⟩⟩⟩
 ·have e:=ylE_e (w:=w) h
  exact ⟨(bad (by rw [e]; exact h)).1,(bad (by rw [e]; exact h)).2,e.symm⟩
 ·have e:=ylE_2 h (.inl h1)
  exact ⟨(bad (by rw [e]; omega)).1,(bad (by rw [e]; omega)).2,e.symm⟩
 ·have e:=ylE_2 h (.inr h2)
  exact ⟨(bad (by rw [e]; omega)).1,(bad (by rw [e]; omega)).2,e.symm⟩
 have e:=ylE_0 (w:=w) h (by omega)
 have eS:=ylS_y e
 have hck:=drE_ck h
 have hk:=ck_ly hck
 have hC:=(ck_0 hck).1
 have hn:=hC.b
 have hs:=st_ok (w:=w.toNat) hC
 have hlen:(ylP Y a b).length≤32:=po_len hk
 rw [eS,e]
 refine ⟨by omega,by omega,by omega,⟨⟨fun hw=>⟨hn,w.toNat,by omega,by rw [hw]; rfl,?_⟩,fun hw=>⟨hn,w.toNat,by omega,by rw [hw]; rfl,?_⟩⟩,fun hw=>⟨hn,w.toNat,by omega,by rw [hw]; rfl,?_⟩⟩,fun hw=>⟨hn,w.toNat,by omega,by rw [hw]; rfl,?_⟩⟩
 all_goals
  refine ⟨hk,drS_bd Y a b,⟨0,⟨h,by omega,by omega,by omega⟩,?_⟩,fun z hz=>⟨fun hl=>?_,fun hl=>?_⟩⟩
  ·and_intros <;> first | rfl | exact fun i hi=>rfl
  ·have hz':z<(ylP Y a b).length:=by omega
   have hp:=yl_okP hck (getD_mem (l:=ylP Y a b) (d:=zP) (i:=z) hz')
   have b1:=ylJ_bd (w:=w.toNat) (a:=a) (b:=b) hck z (by omega)
   have f1:=fl_bd hp hs.1 Y.c.n (Nat.le_refl _)
   have f2:=fl_bd hp hs.2 Y.c.n (Nat.le_refl _)
   have fin:ylI Y a b w (z+1):=⟨h,by omega,by omega,by omega⟩
   refine ⟨by omega,hl,?_⟩
   first
    | exact ⟨hp,hs.1,hp,hs.2,⟨by omega,by omega⟩,by omega,z+1,fin,by omega,by omega,rfl,rfl⟩
    | exact ⟨hp,hs.1,hs.2,⟨by omega,by omega⟩,by omega,z+1,fin,by omega,by omega,rfl,rfl⟩
  ·have hzk:=hz.k
   have:z=(ylP Y a b).length:=by omega
   subst this
   and_intros <;> rfl
theorem csY_sound:SoundS Try.prog csY:=ctrs_sound (by
 intro x hx
 simp at hx
 rcases hx with rfl | rfl | rfl | rfl | rfl | rfl
 ·exact dr_ok
 ·exact gd_ok
 ·exact gr_ok
 ·exact po_ok
 ·exact fi_ok
 ·exact pl_ok)
theorem yl_ok:ylC.Ok Try.prog:=by
 refine ⟨by kernel_rfl,fun x k hk=>?_⟩
 simp only [ylC] at hk
 split at hk
 ·rename_i n f m g a b w
  obtain ⟨h1,h2,hk⟩:=hk
  have hh:=yl_true ⟨clOf n f,msOf m g⟩ a b w
  unfold ylG at hh
  simp only [Yd.sv] at hh
  rw [← h1,← h2] at hh
  have hh:funH Try.prog csY noX (ictrs []) _ noL 18 [.agg [.lst 8 n f,.lst 3 m g],i6 a,i6 b,i6 w] _:=hh
  exact ⟨_,plainD csY_sound nilS_x nilS_ic hh (by simp [plainS,plainS.plainL,Tw.sv,ylR]),hk⟩
 ·exact hk.elim
theorem lt_core {n:Nat} {f:Nat→Tw} {m:Nat} {h:Nat→Tw} (hn:n≤1000):ltG n f m h∧ltG' n f m h:=by
 rw [ltG_vc,ltG'_vc]
 simp only [rI,rE,tt3,tt4,tt5,tt13,tt14,and_true,true_and,Nat.zero_lt_one,and_self,implies_true,Int.toNat_natCast,Nat.zero_add,Nat.add_zero,Nat.one_mul,Nat.mul_one,Classical.not_not,iff_self,Bool.false_eq_true,imp_false,and_imp,true_implies,forall_const]
 refine ⟨fun hne=>⟨False.elim,fun h2=>hne (by rw [h2.1])⟩,fun he=>⟨⟨0,⟨by omega,by omega,fun i hi=>by omega⟩,rfl⟩,fun z hz hnm hq=>⟨fun hl=>⟨by omega,hl,by omega,by omega,fun hx=>⟨False.elim,fun h2=>hx (h2.2 z (by omega))⟩,fun h1 h2=>⟨by omega,z+1,⟨by omega,hnm,fun i hi=>?_⟩,by omega,by omega⟩⟩,fun hl=>⟨fun _=>⟨hnm,fun i hi=>hq i (by omega)⟩,fun _=>trivial⟩⟩⟩⟩
 by_cases k:i<z
 ·exact hq i k
 ·have:i=z:=by omega
  subst this; exact ⟨h1,h2⟩
theorem lt_ok:(ltC 15).Ok Try.prog:=by
 refine ⟨by kernel_rfl,fun x k hk=>?_⟩
 simp only [ltC] at hk
 split at hk
 ·rename_i n f m h
  obtain ⟨h1,h2,hn,hk⟩:=hk
  have hh:=(lt_core (f:=fun i=>tOf (f i)) (m:=m) (h:=fun i=>tOf (h i)) hn).1
  unfold ltG at hh
  rw [← h1,← h2] at hh
  exact ⟨_,plainD nilS_cs nilS_x nilS_ic hh trivial,hk⟩
 ·exact hk.elim
theorem lt_ok':(ltC 20).Ok Try.prog:=by
 refine ⟨by kernel_rfl,fun x k hk=>?_⟩
 simp only [ltC] at hk
 split at hk
 ·rename_i n f m h
  obtain ⟨h1,h2,hn,hk⟩:=hk
  have hh:=(lt_core (f:=fun i=>tOf (f i)) (m:=m) (h:=fun i=>tOf (h i)) hn).2
  unfold ltG' at hh
  rw [← h1,← h2] at hh
  exact ⟨_,plainD nilS_cs nilS_x nilS_ic hh trivial,hk⟩
 ·exact hk.elim
end Go.Proofs.Ytmohedjgoakdjaa
