import Derived.Test.YtbedomoilakcaaaJaJaVJbTJbJdJdVJetJe
set_option linter.unusedVariables false
set_option linter.unusedSimpArgs false
namespace Go.Proofs.Ytbedomoilakcaaa
open Go Go.Lg
attribute [local irreducible] bodyH funS
structure okPl (m:Nat) (f:Nat→Sti) (n:Nat) (p:Nat→Int):Prop where
 e:n=m
 h:∀ i,i<n→okNb (f i).most (p i)
noncomputable def vpG (m:Nat) (f:Nat→Sti) (n:Nat) (p:Nat→Int):Prop:=funH Try.prog (ctrs [frC 50]) noX (ictrs []) (cntX 28 12 (iL n p) n (fun k=>∀ i,i<k→okNb (f i).most (p i)) [(0,stiL m f)] []) noL 48 [stiL m f,iL n p] (.dec (okPl m f n p) (Classical.propDecidable _))
noncomputable def vpC:Ctr:=⟨48,fun args k=>match args with
 | [.lst 5 m f,.lst 1 n p]=>SV.lst 5 m f=stiL m (fun i=>stiOf (f i))∧SV.lst 1 n p=iL n (iOf p)∧m≤4∧k (.dec (okPl m (fun i=>stiOf (f i)) n (iOf p)) (Classical.propDecidable _))
 | _=>False⟩
noncomputable def plX (Y:Yd) (p:Nat→Int):Nat→Crs
 | 0=>stC Y.g Y.st
 | k+1=>nxC (plX Y p k) k (Y.sti k) (p k)
def canL (Y:Yd) (p:Nat→Int) (k:Nat):Prop:=∀ i,i<k→canP (plX Y p i) (Y.sti i) (p i)
open Classical in
noncomputable def erP (Y:Yd) (n:Nat) (p:Nat→Int):Int:=if okYd Y then (if okPl Y.m Y.sti n p then (if canL Y p Y.m then 0 else 10) else 2) else 1
open Classical in
noncomputable def plR (Y:Yd) (n:Nat) (p:Nat→Int):Crs:=if erP Y n p=0 then plX Y p Y.m else zC
noncomputable def csP:CSpec:=ctrs [ydC 25,vpC,ncC,wiC]
noncomputable def pyG (Y:Yd) (n:Nat) (p:Nat→Int):Prop:=funH Try.prog csP noX (ictrs [])
 (oneL 1 (natH (fun k=>k≤n∧canL Y p k) (fun k=>n - k) 3 (fun k=>mkF 51 [(2,.ptr 0 0 0),(4,.ptr 1 0 0),(6,.ptr 2 0 0),(26,iL n p),(27,i6 n),(28,i6 k)]) (fun k=>mkX [vr 3 Y.sv,vr 17 zC.sv,vr 17 (plX Y p k).sv]) fun _=>none)) noL
 31 [Y.sv,iL n p] (.tup [(plR Y n p).sv,i6 (erP Y n p)])
noncomputable def pyC:Ctr:=⟨31,fun args k=>match args with
 | [.agg [.lst 1 g st,.lst 5 m sti,.lst 3 q sal],.lst 1 n p]=>SV.agg [.lst 1 g st,.lst 5 m sti,.lst 3 q sal]=(ydOf g st m sti q sal).sv∧SV.lst 1 n p=iL n (iOf p)∧k (.tup [(plR (ydOf g st m sti q sal) n (iOf p)).sv,i6 (erP (ydOf g st m sti q sal) n (iOf p))])
 | _=>False⟩
open Classical in
noncomputable def lfN (Y:Yd) (n:Nat) (p:Nat→Int):Nat:=if erP Y n p=0 then Y.g else 0
noncomputable def lfR (Y:Yd) (n:Nat) (p:Nat→Int):SV:=.tup [twL (lfN Y n p) (plX Y p Y.m).l,i6 (erP Y n p)]
noncomputable def lfX (Y:Yd) (n:Nat) (p:Nat→Int):CX:=inl Try.prog (ctrs []) none (ictrs []) 32
 (oneL 0 (appN 18 3 (fun k=>k≤Y.g) (fun k=>Y.g - k) 2 (fun k=>mkF 18 [(3,.sl 2 0 k),(6,.sub 1 0 4 2 Y.g),(7,i6 Y.g),(8,i6 k)]) fun k=>mkX [vr 3 Y.sv,vr 17 (plX Y p Y.m).sv,rw' 2 k fun i=>((plX Y p Y.m).l i).sv])) noL noX
noncomputable def lfG (Y:Yd) (n:Nat) (p:Nat→Int):Prop:=funN Try.prog (ctrs [pyC]) (lfX Y n p) (ictrs []) noL noL 14 [Y.sv,iL n p] (lfR Y n p)
noncomputable def lfC:Ctr:=⟨14,fun args k=>match args with
 | [.agg [.lst 1 g st,.lst 5 m sti,.lst 3 q sal],.lst 1 n p]=>SV.agg [.lst 1 g st,.lst 5 m sti,.lst 3 q sal]=(ydOf g st m sti q sal).sv∧SV.lst 1 n p=iL n (iOf p)∧k (lfR (ydOf g st m sti q sal) n (iOf p))
 | _=>False⟩
def slR:Option SRow→Option Nat
 | some R=>(match R.f 0 with
  | .agg l=>(match l.getLastD .any with
   | .sl r _ _=>some r
   | _=>none)
  | _=>none)
 | none=>none
def cmpI (x y:Int):Int:=if x<y then -1 else if y<x then 1 else 0
def nanC:Ctr:=⟨59,fun args k=>match args with
 | [.int .i64 a]=>k (.bool false)
 | _=>False⟩
noncomputable def nanG (a:Int):Prop:=funH Try.prog (ctrs []) noX (ictrs []) noL noL 59 [i6 a] (.bool false)
def cmC:Ctr:=⟨53,fun args k=>match args with
 | [.int .i64 a,.int .i64 b]=>k (i6 (cmpI a b))
 | _=>False⟩
noncomputable def cmG (a b:Int):Prop:=funH Try.prog (ctrs [nanC]) noX (ictrs []) noL noL 53 [i6 a,i6 b] (i6 (cmpI a b))
def prS (sal:Nat→Sal) (a:Int):Int:=(sal a.toNat).price
noncomputable def coG (q n:Nat) (sal:Nat→Sal) (o:Nat→Int) (a b:Int):Prop:=funH Try.prog (ctrs [cmC]) noX (ictrs []) noL noL 44 [.agg [salL q sal,iL n o],i6 a,i6 b] (i6 (cmpI (prS sal b) (prS sal a)))
noncomputable def coC:Ctr:=⟨44,fun args k=>match args with
 | [.agg [.lst 3 q sal,.lst 1 n o],.int .i64 a,.int .i64 b]=>SV.lst 3 q sal=salL q (fun i=>salOf (sal i))∧SV.lst 1 n o=iL n (iOf o)∧(0≤a∧a<q)∧(0≤b∧b<q)∧k (i6 (cmpI (prS (fun i=>salOf (sal i)) b) (prS (fun i=>salOf (sal i)) a)))
 | _=>False⟩
def swp (f:Nat→Int) (j:Nat):Nat→Int:=fun k=>if k=j - 1 then f j else if k=j then f (j - 1) else f k
def ltS (sal:Nat→Sal) (a b:Int):Prop:=prS sal b<prS sal a
open Classical in
noncomputable def inF (sal:Nat→Sal):(Nat→Int)→Nat→(Nat→Int)
 | f,0=>f
 | f,j+1=>if ltS sal (f (j+1)) (f j) then inF sal (swp f (j+1)) j else f
noncomputable def stF (sal:Nat→Sal):Nat→(Nat→Int)
 | 0=>fun k=>k
 | i+1=>inF sal (stF sal i) i
noncomputable def rF1:FS→XS→(Nat × (Nat→Int)→Prop)→Prop:=fun t X k=>match sget 53 t 8 with
 | .int _ a=>(match X.row 2 with
  | some R=>k (a.toNat,fun i=>prI (R.f i))
  | none=>False)
 | _=>False
theorem rF1_ok (t:FS) (X:XS) (k:Nat × (Nat→Int)→Prop) (h:rF1 t X k):∃ s,k s:=by
 unfold rF1 at h
 split at h
 ·split at h
  ·exact ⟨_,h⟩
  ·exact h.elim
 ·exact h.elim
noncomputable def rF2:FS→XS→(Nat × Nat × (Nat→Int)→Prop)→Prop:=fun t X k=>match sget 53 t 8 with
 | .int _ a=>(match sget 53 t 9 with
  | .int _ b=>(match X.row 2 with
   | some R=>k (a.toNat,b.toNat,fun i=>prI (R.f i))
   | none=>False)
  | _=>False)
 | _=>False
theorem rF2_ok (t:FS) (X:XS) (k:Nat × Nat × (Nat→Int)→Prop) (h:rF2 t X k):∃ s,k s:=by
 unfold rF2 at h
 split at h
 ·split at h
  ·split at h
   ·exact ⟨_,h⟩
   ·exact h.elim
  ·exact h.elim
 ·exact h.elim
noncomputable def rN8:FS→XS→(Nat→Prop)→Prop:=fun t _ k=>match sget 53 t 8 with
 | .int _ a=>k a.toNat
 | _=>False
noncomputable def insF (q:Nat) (sal:Nat→Sal) (l:List (Nat × SV)):FS:=mkF 53 ([(0,.sl 2 0 q),(1,i6 0),(2,i6 q),(3,.clo (.func 44) [.agg [salL q sal,.sl 2 0 q]] [])] ++ l)
noncomputable def insX (q:Nat) (sal:Nat→Sal) (f:Nat→Int):XS:=mkX [vr 2 (.agg [.val (.slice none 0 0),.val (.slice none 0 0)]),vr 2 (.agg [salL q sal,.sl 2 0 q]),rw' 1 q fun i=>i6 (f i)]
structure in1 (q:Nat) (sal:Nat→Sal) (x:Nat × (Nat→Int)):Prop where
 a:1≤x.1
 b:x.1≤max 1 q
 f:∀ k,k<q→x.2 k=stF sal x.1 k
structure in2 (q:Nat) (sal:Nat→Sal) (x:Nat × Nat × (Nat→Int)):Prop where
 a:1≤x.1
 b:x.1<q
 c:x.2.1≤x.1
 f:∀ k,k<q→inF sal x.2.2 x.2.1 k=stF sal (x.1+1) k
 r:∀ k,k<q→0≤x.2.2 k∧x.2.2 k<q
structure in3 (q:Nat) (sal:Nat→Sal) (x:Nat × Nat × (Nat→Int)):Prop where
 a:1≤x.1
 b:x.1<q
 c:x.2.1≤x.1
 d:1≤x.2.1
 f:∀ k,k<q→inF sal x.2.2 (x.2.1 - 1) k=stF sal (x.1+1) k
 r:∀ k,k<q→0≤x.2.2 k∧x.2.2 k<q
noncomputable def rN9:FS→XS→(Nat→Prop)→Prop:=fun t _ k=>match sget 53 t 8 with
 | .int _ a=>(match sget 53 t 9 with
  | .int _ b=>k (a.toNat*64+b.toNat)
  | _=>False)
 | _=>False
theorem rN9_ok (t:FS) (X:XS) (k:Nat→Prop) (h:rN9 t X k):∃ s,k s:=by
 unfold rN9 at h
 split at h
 ·split at h
  ·exact ⟨_,h⟩
  ·exact h.elim
 ·exact h.elim
noncomputable def insL (q:Nat) (sal:Nat→Sal):Nat→Option HSpec :=
 twoL 0 { toLSpec:={ σ:=Nat × (Nat→Int),inv:=in1 q sal,μ:=fun x=>q - x.1,nr:=3,ms:=fun _ _=>[],t:=fun x=>insF q sal [(8,i6 x.1)],X:=fun x=>insX q sal x.2,rd:=rF1,rdOK:=rF1_ok } } <|
 twoL 2 { toLSpec:={ σ:=Nat × Nat × (Nat→Int),inv:=in2 q sal,μ:=fun x=>x.2.1,nr:=3,ms:=fun _ _=>[],t:=fun x=>insF q sal [(8,i6 x.1),(9,i6 x.2.1)],X:=fun x=>insX q sal x.2.2,rd:=rF2,rdOK:=rF2_ok },par:=some ⟨rN8,rdI⟩,kinv:=fun y x=>x.1=y } <|
 oneL 1006 { toLSpec:={ σ:=Nat × Nat × (Nat→Int),inv:=in3 q sal,μ:=fun _=>0,nr:=3,ms:=fun _ _=>[],t:=fun x=>insF q sal [(8,i6 x.1),(9,i6 x.2.1)],X:=fun x=>insX q sal x.2.2,rd:=rF2,rdOK:=rF2_ok },D:=[(9,2),(13,2),(15,2),(17,2)],par:=some ⟨rN9,rN9_ok⟩,kinv:=fun y x=>x.1*64+x.2.1=y }
noncomputable def nmX (q:Nat) (sal:Nat→Sal):CX:=inl Try.prog (ctrs [coC]) none (ictrs []) 43 noL noL <| inl Try.prog (ctrs [coC]) none (ictrs []) 52 (twoL 0 (unrH 1) (oneL 2 (unrH 1))) noL <| inl Try.prog (ctrs [coC]) none (ictrs []) 57 (insL q sal) noL noX
noncomputable def oms:FS→XS→Ms:=fun _ X=>[slR (X.row 1)]
noncomputable def nmG (q:Nat) (sal:Nat→Sal):Prop:=funH Try.prog (ctrs []) (nmX q sal) (ictrs [])
 (oneL 0 { toLSpec:={ σ:=Nat,inv:=fun k=>k≤q,μ:=fun k=>q - k,nr:=2,ms:=oms,t:=fun k=>mkF 25 [(2,.ptr 0 0 0),(3,.ptr 1 0 0),(7,salL q sal),(8,i6 q),(9,i6 k)],X:=fun k=>mkX [vr 2 (.agg [.val (.slice none 0 0),.val (.slice none 0 0)]),vr 2 (.agg [salL q sal,.sl 2 0 k]),rw' 1 k fun i=>i6 i],rd:=fun _ _ k=>∃ z,k z,rdOK:=fun _ _ _ h=>h } }) noL
 26 [salL q sal] (.agg [salL q sal,iL q (stF sal q)])
end Go.Proofs.Ytbedomoilakcaaa

set_option maxRecDepth 100000
namespace Go.Proofs.Ytbedomoilakcaaa
open Go Go.Lg
theorem vpG_vc (m:Nat) (f:Nat→Sti) (n:Nat) (p:Nat→Int):vpG m f n p =
((¬(↑n:Int)=(↑m:Int)→(false=true↔okPl m f n p)∧True)∧(¬¬(↑n:Int)=(↑m:Int)→(∃ (z:Nat),(z≤n∧∀ (i:Nat),i<z→(0:Int)≤p i∧p i≤(f i).6)∧m=m∧(∀ (i:Nat),i<m→rE ((f i).sv.den)∧True∧True∧(∀ (i_1:Nat),i_1<(f i).3→True∧True∧True)∧True∧True∧True)∧n=n∧(∀ (i:Nat),i<n→rE ((i6 (p i)).den)∧True)∧rE (↑n:Int)∧(0:Int)=(↑z:Int)∧True)∧∀ (z:Nat),(z≤n∧∀ (i:Nat),i<z→(0:Int)≤p i∧p i≤(f i).6)→((↑z:Int)<(↑n:Int)→(0:Int)≤(↑z:Int)∧(↑z:Int)<(↑n:Int)∧(0:Int)≤(↑z:Int)∧(↑z:Int)<(↑m:Int)∧(¬((0:Int)≤p (↑z:Int).toNat∧p (↑z:Int).toNat≤(f (↑z:Int).toNat).6)→(false=true↔okPl m f n p)∧True)∧(¬¬((0:Int)≤p (↑z:Int).toNat∧p (↑z:Int).toNat≤(f (↑z:Int).toNat).6)→rI ((↑z:Int)+(1:Int))∧∃ (z_1:Nat),(z_1≤n∧∀ (i
: Nat),i<z_1→(0:Int)≤p i∧p i≤(f i).6)∧n - z_1<n - z∧m=m∧(∀ (i:Nat),i<m→rE ((f i).sv.den)∧True∧True∧(∀ (i_1:Nat),i_1<(f i).3→True∧True∧True)∧True∧True∧True)∧n=n∧(∀ (i:Nat),i<n→rE ((i6 (p i)).den)∧True)∧rE (↑n:Int)∧(↑z:Int)+(1:Int)=(↑z_1:Int)∧True))∧(¬(↑z:Int)<(↑n:Int)→(rE true↔okPl m f n p)∧True))):=by kernel_rfl
theorem pyG_vc (Y:Yd) (n:Nat) (p:Nat→Int):pyG Y n p=((0:Nat)<(1:Nat)∧(∀ (i:Nat),i<Y.1→True)∧(∀ (i:Nat),i<Y.3→True∧True∧(∀ (i_1:Nat),i_1<(Y.sti i).3→True∧True∧True)∧True∧True∧True)∧(∀ (i:Nat),i<Y.5→True∧True∧True∧True)∧SV.agg [SV.lst (1:Nat) Y.g fun i=>i6 (Y.st i),SV.lst (5:Nat) Y.m fun i=>(Y.sti i).sv,SV.lst (3:Nat) Y.q fun i=>(Y.sal i).sv]=(ydOf Y.g (fun i=>i6 (Y.st i)) Y.m (fun i=>(Y.sti i).sv) Y.q fun i=>(Y.sal i).sv).sv∧(¬okYd (ydOf Y.g (fun i=>i6 (Y.st i)) Y.m (fun i=>(Y.sti i).sv) Y.q fun i=>(Y.sal i).sv)→(0:Nat)<(1:Nat)∧(e17 zC (plR Y n p) ((1:Int)=erP Y n p∧True)))∧(¬¬okYd (ydOf Y.g (fun i=>i6 (Y.st i)) Y.m (fun i=>(Y.sti i).sv) Y.q fun i=>(Y.sal i).sv)→(0:Nat)<(1:Nat)∧(∀ (i:Nat),i<Y.3→True∧True∧(∀ (i_1:Nat),i_1<(Y.sti i).3→True∧True∧True)∧True∧True∧True)∧(∀ (i:Nat),i<n→True)∧((SV.lst (5:Nat) Y.m fun i=>(Y.sti i).sv)=stiL Y.m fun i=>stiOf (Y.sti i).sv)∧(SV.lst (1:Nat) n fun i=>i6 (p i))=iL n (iOf fun i=>i6 (p i))∧Y.3≤(4:Nat)∧(¬okPl Y.m (fun i=>stiOf (Y.sti i).sv) n (iOf fun i=>i6 (p i))→(0:Nat)<(1:Nat)∧(e17 zC (plR Y n p) ((2:Int)=erP Y n p∧True)))∧(¬¬okPl Y.m (fun i=>stiOf (Y.sti i).sv) n (iOf fun i=>i6 (p i))→(0:Nat)<(1:Nat)∧(∀ (i:Nat),i<Y.1→True)∧(SV.lst (1:Nat) Y.g fun i=>i6 (Y.st i))=iL Y.g (iOf fun i=>i6 (Y.st i))∧Y.1≤(6:Nat)∧(∃ (z:Nat),(z≤n∧canL Y p z)∧rE (0:Nat)∧rE (0:Nat)∧rE (0:Nat)∧rE (0:Nat)∧rE (0:Nat)∧rE (0:Nat)∧n=n∧(∀ (i:Nat),i<n→rE ((i6 (p i)).den)∧True)∧rE (↑n:Int)∧(0:Int)=(↑z:Int)∧Y.1=Y.1∧(∀ (i:Nat),i<Y.1→rE ((i6 (Y.st i)).den)∧True)∧Y.3=Y.3∧(∀ (i:Nat),i<Y.3→rE ((Y.sti i).sv.den)∧True∧True∧(∀ (i_1:Nat),i_1<(Y.sti i).3→True∧True∧True)∧True∧True∧True)∧Y.5=Y.5∧(∀ (i:Nat),i<Y.5→rE ((Y.sal i).sv.den)∧True∧True∧True∧True)∧rE (0:Int)∧rE (0:Int)∧rE (0:Int)∧rE (0:Int)∧rE (0:Int)∧rE (0:Int)∧rE (0:Int)∧rE (0:Int)∧rE (0:Int)∧rE (0:Int)∧rE (0:Int)∧rE (0:Int)∧rE (0:Int)∧rE (0:Int)∧rE (0:Int)∧rE (0:Int)∧rE (0:Int)∧(0:Int)=(plX Y p z).1 (0:Nat)∧(0:Int)=(plX Y p z).1 (1:Nat)∧(0:Int)=(plX Y p z).1 (2:Nat)∧(0:Int)=(plX Y p z).1 (3:Nat)∧((stC Y.g (iOf fun i=>i6 (Y.st i))).l (0:Nat)).1=((plX Y p z).l (0:Nat)).1∧((stC Y.g (iOf fun i=>i6 (Y.st i))).l (0:Nat)).2=((plX Y p z).l (0:Nat)).2∧((stC Y.g (iOf fun i=>i6 (Y.st i))).l (1:Nat)).1=((plX Y p z).l (1:Nat)).1∧((stC Y.g (iOf fun i=>i6 (Y.st i))).l (1:Nat)).2=((plX Y p z).l (1:Nat)).2∧((stC Y.g (iOf fun i=>i6 (Y.st i))).l (2:Nat)).1=((plX Y p z).l (2:Nat)).1∧((stC Y.g (iOf fun i=>i6 (Y.st i))).l (2:Nat)).2=((plX Y p z).l (2:Nat)).2∧((stC Y.g (iOf fun i=>i6 (Y.st i))).l (3:Nat)).1=((plX Y p z).l (3:Nat)).1∧((stC Y.g (iOf fun i=>i6 (Y.st i))).l (3:Nat)).2=((plX Y p z).l (3:Nat)).2∧((stC Y.g (iOf fun i=>i6 (Y.st i))).l (4:Nat)).1=((plX Y p z).l (4:Nat)).1∧((stC Y.g (iOf fun i=>i6 (Y.st i))).l (4:Nat)).2=((plX Y p z).l (4:Nat)).2∧((stC Y.g (iOf fun i=>i6 (Y.st i))).l (5:Nat)).1=((plX Y p z).l (5:Nat)).1∧((stC Y.g (iOf fun i=>i6 (Y.st i))).l (5:Nat)).2=((plX Y p z).l (5:Nat)).2∧(0:Int)=(plX Y p z).3∧True)∧∀ (z:Nat),z≤n∧canL Y p z→((↑z:Int)<(↑n:Int)→(0:Int)≤(↑z:Int)∧(↑z:Int)<(↑n:Int)∧(0:Nat)<(1:Nat)∧(0:Nat)<(1:Nat)∧(0:Int)≤(↑z:Int)∧(↑z:Int)<(↑Y.3:Int)∧(∀ (i_1:Nat),i_1<(Y.sti (↑z:Int).toNat).3→True∧True∧True)∧(SV.lst (2:Nat) (Y.sti (↑z:Int).toNat).on fun i=>((Y.sti (↑z:Int).toNat).out i).sv)=twL (Y.sti (↑z:Int).toNat).on (ftOf fun i=>((Y.sti (↑z:Int).toNat).out i).sv)∧((0:Int)≤(↑z:Int)∧(↑z:Int)≤(3:Int))∧okSt (Sti.mk (Y.sti (↑z:Int).toNat).inn (Y.sti (↑z:Int).toNat).takes (Y.sti (↑z:Int).toNat).on (ftOf fun i=>((Y.sti (↑z:Int).toNat).out i).sv) (Y.sti (↑z:Int).toNat).pay (Y.sti (↑z:Int).toNat).most)∧okT (p (↑z:Int).toNat)∧bdC (10000000000:Int) (r17 (plX Y p z))∧(¬canP (r17 (plX Y p z)) (Sti.mk (Y.sti (↑z:Int).toNat).inn (Y.sti (↑z:Int).toNat).takes (Y.sti (↑z:Int).toNat).on (ftOf fun i=>((Y.sti (↑z:Int).toNat).out i).sv) (Y.sti (↑z:Int).toNat).pay (Y.sti (↑z:Int).toNat).most) (p (↑z:Int).toNat)→(0:Nat)<(1:Nat)∧(e17 zC (plR Y n p) ((10:Int)=erP Y n p∧True)))∧(¬¬canP (r17 (plX Y p z)) (Sti.mk (Y.sti (↑z:Int).toNat).inn (Y.sti (↑z:Int).toNat).takes (Y.sti (↑z:Int).toNat).on (ftOf fun i=>((Y.sti (↑z:Int).toNat).out i).sv) (Y.sti (↑z:Int).toNat).pay (Y.sti (↑z:Int).toNat).most) (p (↑z:Int).toNat)→(0:Nat)<(1:Nat)∧rI ((↑z:Int)+(1:Int))∧∃ (z_1:Nat),(z_1≤n∧canL Y p z_1)∧n - z_1<n - z∧rE (0:Nat)∧rE (0:Nat)∧rE (0:Nat)∧rE (0:Nat)∧rE (0:Nat)∧rE (0:Nat)∧n=n∧(∀ (i:Nat),i<n→rE ((i6 (p i)).den)∧True)∧rE (↑n:Int)∧(↑z:Int)+(1:Int)=(↑z_1:Int)∧Y.1=Y.1∧(∀ (i:Nat),i<Y.1→rE ((i6 (Y.st i)).den)∧True)∧Y.3=Y.3∧(∀ (i:Nat),i<Y.3→rE ((Y.sti i).sv.den)∧True∧True∧(∀ (i_1:Nat),i_1<(Y.sti i).3→True∧True∧True)∧True∧True∧True)∧Y.5=Y.5∧(∀ (i:Nat),i<Y.5→rE ((Y.sal i).sv.den)∧True∧True∧True∧True)∧rE (0:Int)∧rE (0:Int)∧rE (0:Int)∧rE (0:Int)∧rE (0:Int)∧rE (0:Int)∧rE (0:Int)∧rE (0:Int)∧rE (0:Int)∧rE (0:Int)∧rE (0:Int)∧rE (0:Int)∧rE (0:Int)∧rE (0:Int)∧rE (0:Int)∧rE (0:Int)∧rE (0:Int)∧(e17 (wiX (r17 (plX Y p z)) (↑z:Int) (Sti.mk (Y.sti (↑z:Int).toNat).inn (Y.sti (↑z:Int).toNat).takes (Y.sti (↑z:Int).toNat).on (ftOf fun i=>((Y.sti (↑z:Int).toNat).out i).sv) (Y.sti (↑z:Int).toNat).pay (Y.sti (↑z:Int).toNat).most) (p (↑z:Int).toNat)) (plX Y p z_1) (True))))∧(¬(↑z:Int)<(↑n:Int)→(0:Nat)<(1:Nat)∧(0:Nat)<(1:Nat)∧(e17 (plX Y p z) (plR Y n p) ((0:Int)=erP Y n p∧True)))))):=by kernel_rfl
theorem lfG_vc (Y:Yd) (n:Nat) (p:Nat→Int):lfG Y n p=((0:Nat)<(1:Nat)∧(∀ (i:Nat),i<Y.1→True)∧(∀ (i:Nat),i<Y.3→True∧True∧(∀ (i_1:Nat),i_1<(Y.sti i).3→True∧True∧True)∧True∧True∧True)∧(∀ (i:Nat),i<Y.5→True∧True∧True∧True)∧(∀ (i:Nat),i<n→True)∧SV.agg [SV.lst (1:Nat) Y.g fun i=>i6 (Y.st i),SV.lst (5:Nat) Y.m fun i=>(Y.sti i).sv,SV.lst (3:Nat) Y.q fun i=>(Y.sal i).sv]=(ydOf Y.g (fun i=>i6 (Y.st i)) Y.m (fun i=>(Y.sti i).sv) Y.q fun i=>(Y.sal i).sv).sv∧(SV.lst (1:Nat) n fun i=>i6 (p i))=iL n (iOf fun i=>i6 (p i))∧(¬erP (ydOf Y.g (fun i=>i6 (Y.st i)) Y.m (fun i=>(Y.sti i).sv) Y.q fun i=>(Y.sal i).sv) n (iOf fun i=>i6 (p i))=(0:Int)→(0:Nat)=lfN Y n p∧erP (ydOf Y.g (fun i=>i6 (Y.st i)) Y.m (fun i=>(Y.sti i).sv) Y.q fun i=>(Y.sal i).sv) n (iOf fun i=>i6 (p i))=erP Y n p∧True)∧(¬¬erP (ydOf Y.g (fun i=>i6 (Y.st i)) Y.m (fun i=>(Y.sti i).sv) Y.q fun i=>(Y.sal i).sv) n (iOf fun i=>i6 (p i))=(0:Int)→(0:Nat)<(1:Nat)∧(0:Int)≤(0:Int)∧(0:Int)≤(↑Y.1:Int)∧(↑Y.1:Int)≤(↑(6:Nat):Int)∧(∃ (z:Nat),z≤Y.1∧rE (0:Nat)∧(0:Nat)=z∧rE (0:Nat)∧rE (4:Nat)∧rE (2:Nat)∧((↑Y.1:Int) - (0:Int)).toNat=Y.1∧(↑((↑Y.1:Int) - (0:Int)).toNat:Int)=(↑Y.1:Int)∧(0:Int)=(↑z:Int)∧Y.1=Y.1∧(∀ (i:Nat),i<Y.1→rE ((i6 (Y.st i)).den)∧True)∧Y.3=Y.3∧(∀ (i:Nat),i<Y.3→rE ((Y.sti i).sv.den)∧True∧True∧(∀ (i_1:Nat),i_1<(Y.sti i).3→True∧True∧True)∧True∧True∧True)∧Y.5=Y.5∧(∀ (i:Nat),i<Y.5→rE ((Y.sal i).sv.den)∧True∧True∧True∧True)∧(e17 (plR (ydOf Y.g (fun i=>i6 (Y.st i)) Y.m (fun i=>(Y.sti i).sv) Y.q fun i=>(Y.sal i).sv) n (iOf fun i=>i6 (p i))) (plX Y p Y.m) (z=(0:Nat)∧True)))∧∀ (z:Nat),z≤Y.1→((↑z:Int)<(↑Y.1:Int)→(0:Int)≤(↑z:Int)∧(↑z:Int)<(↑Y.1:Int)∧(0:Nat)<(1:Nat)∧(4:Nat)+(↑z:Int).toNat*(2:Nat)+(1:Nat)<(17:Nat)∧(0:Nat)<(1:Nat)∧True∧(∀ (i:Nat),i<(1:Nat)→rE true)∧rE (0:Nat)∧z=z∧(∀ (i:Nat),rE true)∧(z+(1:Nat))*(16:Nat)≤(140737488355328:Nat)∧z+(1:Nat)≤(4611686018427387904:Nat)∧rI ((↑z:Int)+(1:Int))∧∃ (z_1:Nat),z_1≤Y.1∧Y.1 - z_1<Y.1 - z∧rE (0:Nat)∧z+(1:Nat)=z_1∧rE (0:Nat)∧rE (4:Nat)∧rE (2:Nat)∧Y.1=Y.1∧rE (↑Y.1:Int)∧(↑z:Int)+(1:Int)=(↑z_1:Int)∧Y.1=Y.1∧(∀ (i:Nat),i<Y.1→rE ((i6 (Y.st i)).den)∧True)∧Y.3=Y.3∧(∀ (i:Nat),i<Y.3→rE ((Y.sti i).sv.den)∧True∧True∧(∀ (i_1:Nat),i_1<(Y.sti i).3→True∧True∧True)∧True∧True∧True)∧Y.5=Y.5∧(∀ (i:Nat),i<Y.5→rE ((Y.sal i).sv.den)∧True∧True∧True∧True)∧rE ((plX Y p Y.m).1 (0:Nat))∧rE ((plX Y p Y.m).1 (1:Nat))∧rE ((plX Y p Y.m).1 (2:Nat))∧rE ((plX Y p Y.m).1 (3:Nat))∧rE (((plX Y p Y.m).l (0:Nat)).1)∧rE (((plX Y p Y.m).l (0:Nat)).2)∧rE (((plX Y p Y.m).l (1:Nat)).1)∧rE (((plX Y p Y.m).l (1:Nat)).2)∧rE (((plX Y p Y.m).l (2:Nat)).1)∧rE (((plX Y p Y.m).l (2:Nat)).2)∧rE (((plX Y p Y.m).l (3:Nat)).1)∧rE (((plX Y p Y.m).l (3:Nat)).2)∧rE (((plX Y p Y.m).l (4:Nat)).1)∧rE (((plX Y p Y.m).l (4:Nat)).2)∧rE (((plX Y p Y.m).l (5:Nat)).1)∧rE (((plX Y p Y.m).l (5:Nat)).2)∧rE ((plX Y p Y.m).3)∧z_1=z+(1:Nat)∧(∀ (i_2:Nat),i_2<z_1→rE (2:Nat)∧(if i_2<z then ((plX Y p Y.m).l i_2).1 else cellZ (plX Y p Y.m).sv.cells ((4:Nat)+(↑z:Int).toNat*(2:Nat)))=((plX Y p Y.m).l i_2).1∧(if i_2<z then ((plX Y p Y.m).l i_2).2 else cellZ (plX Y p Y.m).sv.cells ((4:Nat)+(↑z:Int).toNat*(2:Nat)+(1:Nat)))=((plX Y p Y.m).l i_2).2∧True)∧True)∧(¬(↑z:Int)<(↑Y.1:Int)→z=lfN Y n p∧(0:Nat)+lfN Y n p≤z∧(∀ (i:Nat),i<lfN Y n p→rE (2:Nat)∧rE (2:Nat)∧((plX Y p Y.m).l (i+(0:Nat))).1=((plX Y p Y.m).l i).1∧((plX Y p Y.m).l (i+(0:Nat))).2=((plX Y p Y.m).l i).2∧True)∧(0:Int)=erP Y n p∧True))):=by kernel_rfl
theorem nanG_vc (a:Int):nanG a =
((¬a=a↔false=true)∧True):=by kernel_rfl
theorem cmG_vc (a:Int) (b:Int):cmG a b =
((a<b→(-1:Int)=cmpI a b∧True) ∧
 (¬a<b→(b<a→(1:Int)=cmpI a b∧True)∧(¬b<a→(0:Int)=cmpI a b∧True))):=by kernel_rfl
theorem coG_vc (q:Nat) (n:Nat) (sal:Nat→Sal) (o:Nat→Int) (a:Int) (b:Int):coG q n sal o a b =
((0:Nat)<(1:Nat) ∧
 (0:Int)≤b ∧
  b<(↑q:Int) ∧
   (0:Nat)<(1:Nat) ∧
    (0:Int)≤a∧a<(↑q:Int)∧cmpI (sal b.toNat).3 (sal a.toNat).3=cmpI (prS sal b) (prS sal a)∧True):=by kernel_rfl
def nmG0 (q:Nat) (sal:Nat→Sal):Prop:=(∀ (i:Nat),i<q→rE ((sal i).sv.den)∧True∧True∧True∧True)
theorem nmG_vc (q:Nat) (sal:Nat→Sal):nmG q sal =
((∃ (z:Nat),z≤q∧rE (0:Nat)∧rE (0:Nat)∧rE (0:Nat)∧rE (0:Nat)∧q=q∧(nmG0 q sal)∧rE (↑q:Int)∧(0:Int)=(↑z:Int)∧rE (Value.slice none (0:Nat) (0:Nat))∧rE (Value.slice none (0:Nat) (0:Nat))∧q=q∧(nmG0 q sal)∧rE (0:Nat)∧(0:Nat)=z∧z=(0:Nat)∧True)∧∀ (z:Nat),z≤q→((↑z:Int)<(↑q:Int)→(0:Nat)<(1:Nat)∧True∧(∀ (i:Nat),i<(1:Nat)→rE true)∧rE (0:Nat)∧z=z∧(∀ (i:Nat),rE true)∧(z+(1:Nat))*(8:Nat)≤(140737488355328:Nat)∧z+(1:Nat)≤(4611686018427387904:Nat)∧rI ((↑z:Int)+(1:Int))∧∃ (z_1:Nat),z_1≤q∧q - z_1<q - z∧rE (0:Nat)∧rE (0:Nat)∧rE (0:Nat)∧rE (0:Nat)∧q=q∧(nmG0 q sal)∧rE (↑q:Int)∧(↑z:Int)+(1:Int)=(↑z_1:Int)∧rE (Value.slice none (0:Nat) (0:Nat))∧rE (Value.slice none (0:Nat) (0:Nat))∧q=q∧(nmG0 q
sal)∧rE (0:Nat)∧z+(1:Nat)=z_1∧z_1=z+(1:Nat)∧(∀ (i_2:Nat),i_2<z_1→rE (1:Nat)∧(if i_2<z then (↑i_2:Int) else (↑z:Int))=(↑i_2:Int)∧True)∧True)∧(¬(↑z:Int)<(↑q:Int)→(0:Nat)<(1:Nat)∧(0:Nat)<(1:Nat)∧((20:Int)≤(↑z:Int)→rI ((0:Int)+(1:Int))∧(in1 q sal (((0:Int)+(1:Int)).toNat,fun i=>prI (i6 (↑i:Int)))∧rE (0:Nat)∧z=q∧rE (0:Int)∧(20:Int)=(↑q:Int)∧Fn.func (44:Nat)=Fn.func (44:FuncId)∧q=q∧(nmG0 q sal)∧rE (0:Nat)∧z=q∧(0:Int)+(1:Int)=(↑(1:Nat):Int)∧rE (Value.slice none (0:Nat) (0:Nat))∧rE (Value.slice none (0:Nat) (0:Nat))∧q=q∧(nmG0 q sal)∧rE (0:Nat)∧z=q∧q=z∧(∀ (i:Nat),i<q→rE (1:Nat)∧rE (↑i:Int)∧True)∧True)∧∀ (zp17_0:Nat × (Nat→Int)),in1 q sal zp17_0→((↑zp17_0.1:Int)<(↑q:Int)→((in2 q
sal ((↑zp17_0.fst:Int).toNat,(↑zp17_0.fst:Int).toNat,fun i=>prI (i6 (zp17_0.snd i)))∧rE ((↑zp17_0.1:Int).toNat))∧rE (0:Nat)∧q=q∧rE (0:Int)∧rE (↑q:Int)∧rE (Fn.func (44:FuncId))∧q=q∧(nmG0 q sal)∧rE (0:Nat)∧q=q∧(↑zp17_0.1:Int)=(↑(↑zp17_0.1:Int).toNat:Int)∧(↑zp17_0.1:Int)=(↑(↑zp17_0.1:Int).toNat:Int)∧rE (Value.slice none (0:Nat) (0:Nat))∧rE (Value.slice none (0:Nat) (0:Nat))∧q=q∧(nmG0 q sal)∧rE (0:Nat)∧q=q∧q=q∧(∀ (i_1:Nat),i_1<q→rE (1:Nat)∧rE (zp17_0.2 i_1)∧True)∧True)∧∀ (zp23_1:Nat × Nat × (Nat→Int)),in2 q sal zp23_1∧zp23_1.1=(↑zp17_0.1:Int).toNat→((0:Int)<(↑zp23_1.snd.1:Int)→(0:Int)≤(↑zp23_1.snd.1:Int)∧(↑zp23_1.snd.1:Int)<(↑q:Int)∧(0:Nat)+(↑zp23_1.snd.1:Int).toNat<q∧rI ((↑zp23_1.snd.1:Int) - (1:Int))∧(0:Int) ≤
(↑zp23_1.snd.1:Int) - (1:Int)∧(↑zp23_1.snd.1:Int) - (1:Int)<(↑q:Int)∧(0:Nat)+((↑zp23_1.snd.1:Int) - (1:Int)).toNat<q∧(∀ (i:Nat),i<q→True∧True∧True∧True)∧(0:Nat)+q≤q∧(∀ (i:Nat),i<q→rE (1:Nat)∧True)∧((SV.lst (3:Nat) q fun i=>(sal i).sv)=salL q fun i=>salOf (sal i).sv)∧(SV.lst (1:Nat) q fun i=>i6 (zp23_1.snd.snd (i+(0:Nat))))=iL q (iOf fun i=>i6 (zp23_1.snd.snd (i+(0:Nat))))∧((0:Int)≤zp23_1.snd.2 ((0:Nat)+(↑zp23_1.snd.fst:Int).toNat)∧zp23_1.snd.2 ((0:Nat)+(↑zp23_1.snd.fst:Int).toNat)<(↑q:Int))∧((0:Int)≤zp23_1.snd.2 ((0:Nat)+((↑zp23_1.snd.fst:Int) - (1:Int)).toNat)∧zp23_1.snd.2 ((0:Nat)+((↑zp23_1.snd.fst:Int) - (1:Int)).toNat)<(↑q:Int))∧(cmpI (prS (fun i=>salOf (sal i).sv) (zp23_1.snd.2 ((0:Nat)+((↑zp23_1.snd.fst:Int) - (1:Int)).toNat)))
(prS (fun i=>salOf (sal i).sv) (zp23_1.snd.2 ((0:Nat)+(↑zp23_1.snd.fst:Int).toNat)))<(0:Int)→(True∧True∧True∧True∧True∧True∧True∧True∧True∧True∧rI ((↑zp23_1.snd.1:Int) - (1:Int))∧True∧True∧True∧True∧True∧True∧rI ((↑zp23_1.snd.1:Int) - (1:Int))∧True∧True∧(0:Int)≤(↑zp23_1.snd.1:Int) - (1:Int)∧(↑zp23_1.snd.1:Int) - (1:Int)<(↑q:Int)∧True∧True∧(0:Nat)+((↑zp23_1.snd.1:Int) - (1:Int)).toNat<q∧True∧True∧True∧True∧(True∧True∧(0:Int)≤(↑zp23_1.snd.1:Int)∧(↑zp23_1.snd.1:Int)<(↑q:Int)∧True∧True∧(0:Nat)+(↑zp23_1.snd.1:Int).toNat<q∧True∧True∧(0:Int)≤(↑zp23_1.snd.1:Int)∧(↑zp23_1.snd.1:Int)<(↑q:Int)∧True∧True∧(0:Nat)+(1:Nat)≤(1:Nat)∧(0:Nat)+(↑zp23_1.snd.1:Int).toNat<q∧(∀ (i':Nat),rE true)∧True∧True∧(0:Int) ≤
(↑zp23_1.snd.1:Int) - (1:Int)∧(↑zp23_1.snd.1:Int) - (1:Int)<(↑q:Int)∧True∧True∧(0:Nat)+(1:Nat)≤(1:Nat)∧(0:Nat)+((↑zp23_1.snd.1:Int) - (1:Int)).toNat<q∧(∀ (i':Nat),rE true)∧(in3 q sal ((↑zp23_1.fst:Int).toNat,(↑zp23_1.snd.fst:Int).toNat,fun i=>prI (putR (putR (fun i=>i6 (zp23_1.snd.snd i)) ((0:Nat)+(↑zp23_1.snd.fst:Int).toNat) (0:Nat) (SV.int IntKind.i64 (zp23_1.snd.snd ((0:Nat)+((↑zp23_1.snd.fst:Int) - (1:Int)).toNat)))) ((0:Nat)+((↑zp23_1.snd.fst:Int) - (1:Int)).toNat) (0:Nat) (SV.int IntKind.i64 (zp23_1.snd.snd ((0:Nat)+(↑zp23_1.snd.fst:Int).toNat))) i))∧rE ((↑zp23_1.1:Int).toNat*(64:Nat)+(↑zp23_1.snd.1:Int).toNat))∧rE (0:Nat)∧q=q∧rE (0:Int)∧rE (↑q:Int)∧rE (Fn.func (44:FuncId))∧q=q∧(nmG0 q sal)∧rE (0:Nat)∧q=q∧(↑zp23_1.1:Int)=(↑(↑zp23_1.1 :
Int).toNat:Int)∧(↑zp23_1.snd.1:Int)=(↑(↑zp23_1.snd.1:Int).toNat:Int)∧rE (Value.slice none (0:Nat) (0:Nat))∧rE (Value.slice none (0:Nat) (0:Nat))∧q=q∧(nmG0 q sal)∧rE (0:Nat)∧q=q∧q=q∧(∀ (i_2:Nat),i_2<q→rE (1:Nat)∧((if i_2=(0:Nat)+((↑zp23_1.snd.1:Int) - (1:Int)).toNat then zp23_1.snd.2 ((0:Nat)+(↑zp23_1.snd.fst:Int).toNat) else if i_2=(0:Nat)+(↑zp23_1.snd.1:Int).toNat then zp23_1.snd.2 ((0:Nat)+((↑zp23_1.snd.fst:Int) - (1:Int)).toNat) else zp23_1.snd.2 i_2)=if i_2=(0:Nat)+((↑zp23_1.snd.1:Int) - (1:Int)).toNat then zp23_1.snd.2 ((0:Nat)+(↑zp23_1.snd.fst:Int).toNat) else if i_2=(0:Nat)+(↑zp23_1.snd.1:Int).toNat then zp23_1.snd.2 ((0:Nat)+((↑zp23_1.snd.fst:Int) - (1:Int)).toNat) else zp23_1.snd.2 i_2)∧True)∧True)∧True)∧∀ (zp23_2:Nat × Nat × (Nat→Int)),in3 q sal
zp23_2∧zp23_2.1*(64:Nat)+zp23_2.snd.1=(↑zp23_1.1:Int).toNat*(64:Nat)+(↑zp23_1.snd.1:Int).toNat→rI ((↑zp23_2.snd.1:Int) - (1:Int))∧(in2 q sal ((↑zp23_2.fst:Int).toNat,((↑zp23_2.snd.fst:Int) - (1:Int)).toNat,fun i=>prI (i6 (zp23_2.snd.snd i)))∧(↑zp23_2.1:Int).toNat=(↑zp17_0.1:Int).toNat)∧((↑zp23_2.snd.1:Int) - (1:Int)).toNat<zp23_1.snd.1∧rE (0:Nat)∧q=q∧rE (0:Int)∧rE (↑q:Int)∧rE (Fn.func (44:FuncId))∧q=q∧(nmG0 q sal)∧rE (0:Nat)∧q=q∧(↑zp23_2.1:Int)=(↑(↑zp23_2.1:Int).toNat:Int)∧(↑zp23_2.snd.1:Int) - (1:Int)=(↑((↑zp23_2.snd.1:Int) - (1:Int)).toNat:Int)∧rE (Value.slice none (0:Nat) (0:Nat))∧rE (Value.slice none (0:Nat) (0:Nat))∧q=q∧(nmG0 q sal)∧rE (0:Nat)∧q=q∧q=q∧(∀ (i_3:Nat),i_3<q→rE (1:Nat)∧rE (zp23_2.snd.2 i_3)∧True)∧True)∧(¬cmpI
(prS (fun i=>salOf (sal i).sv) (zp23_1.snd.2 ((0:Nat)+((↑zp23_1.snd.fst:Int) - (1:Int)).toNat))) (prS (fun i=>salOf (sal i).sv) (zp23_1.snd.2 ((0:Nat)+(↑zp23_1.snd.fst:Int).toNat)))<(0:Int)→rI ((↑zp23_1.1:Int)+(1:Int))∧in1 q sal (((↑zp23_1.fst:Int)+(1:Int)).toNat,fun i=>prI (i6 (zp23_1.snd.snd i)))∧q - ((↑zp23_1.1:Int)+(1:Int)).toNat<q - zp17_0.1∧rE (0:Nat)∧q=q∧rE (0:Int)∧rE (↑q:Int)∧rE (Fn.func (44:FuncId))∧q=q∧(nmG0 q sal)∧rE (0:Nat)∧q=q∧(↑zp23_1.1:Int)+(1:Int)=(↑((↑zp23_1.1:Int)+(1:Int)).toNat:Int)∧rE (Value.slice none (0:Nat) (0:Nat))∧rE (Value.slice none (0:Nat) (0:Nat))∧q=q∧(nmG0 q sal)∧rE (0:Nat)∧q=q∧q=q∧(∀ (i_2:Nat),i_2<q→rE (1:Nat)∧rE (zp23_1.snd.2 i_2)∧True)∧True))∧(¬(0:Int)<(↑zp23_1.snd.1:Int)→rI ((↑zp23_1.1:Int) +
(1:Int))∧in1 q sal (((↑zp23_1.fst:Int)+(1:Int)).toNat,fun i=>prI (i6 (zp23_1.snd.snd i)))∧q - ((↑zp23_1.1:Int)+(1:Int)).toNat<q - zp17_0.1∧rE (0:Nat)∧q=q∧rE (0:Int)∧rE (↑q:Int)∧rE (Fn.func (44:FuncId))∧q=q∧(nmG0 q sal)∧rE (0:Nat)∧q=q∧(↑zp23_1.1:Int)+(1:Int)=(↑((↑zp23_1.1:Int)+(1:Int)).toNat:Int)∧rE (Value.slice none (0:Nat) (0:Nat))∧rE (Value.slice none (0:Nat) (0:Nat))∧q=q∧(nmG0 q sal)∧rE (0:Nat)∧q=q∧q=q∧(∀ (i_2:Nat),i_2<q→rE (1:Nat)∧rE (zp23_1.snd.2 i_2)∧True)∧True))∧(¬(↑zp17_0.1:Int)<(↑q:Int)→rI ((20:Int)+(20:Int))∧False))∧(¬(20:Int)≤(↑z:Int)→rI ((0:Int)+(1:Int))∧(in1 q sal (((0:Int)+(1:Int)).toNat,fun i=>prI (i6 (↑i:Int)))∧rE (0:Nat)∧z=q∧rE (0:Int)∧(↑z:Int)=(↑q:Int)∧Fn.func (44:Nat)=Fn.func
(44:FuncId)∧q=q∧(nmG0 q sal)∧rE (0:Nat)∧z=q∧(0:Int)+(1:Int)=(↑(1:Nat):Int)∧rE (Value.slice none (0:Nat) (0:Nat))∧rE (Value.slice none (0:Nat) (0:Nat))∧q=q∧(nmG0 q sal)∧rE (0:Nat)∧z=q∧q=z∧(∀ (i:Nat),i<q→rE (1:Nat)∧rE (↑i:Int)∧True)∧True)∧∀ (zp17_1:Nat × (Nat→Int)),in1 q sal zp17_1→((↑zp17_1.1:Int)<(↑q:Int)→((in2 q sal ((↑zp17_1.fst:Int).toNat,(↑zp17_1.fst:Int).toNat,fun i=>prI (i6 (zp17_1.snd i)))∧rE ((↑zp17_1.1:Int).toNat))∧rE (0:Nat)∧q=q∧rE (0:Int)∧rE (↑q:Int)∧rE (Fn.func (44:FuncId))∧q=q∧(nmG0 q sal)∧rE (0:Nat)∧q=q∧(↑zp17_1.1:Int)=(↑(↑zp17_1.1:Int).toNat:Int)∧(↑zp17_1.1:Int)=(↑(↑zp17_1.1:Int).toNat:Int)∧rE (Value.slice none (0:Nat) (0:Nat))∧rE (Value.slice none (0:Nat) (0:Nat))∧q=q∧(nmG0 q sal)∧rE (0 :
Nat)∧q=q∧q=q∧(∀ (i_2:Nat),i_2<q→rE (1:Nat)∧rE (zp17_1.2 i_2)∧True)∧True)∧∀ (zp23_2:Nat × Nat × (Nat→Int)),in2 q sal zp23_2∧zp23_2.1=(↑zp17_1.1:Int).toNat→((0:Int)<(↑zp23_2.snd.1:Int)→(0:Int)≤(↑zp23_2.snd.1:Int)∧(↑zp23_2.snd.1:Int)<(↑q:Int)∧(0:Nat)+(↑zp23_2.snd.1:Int).toNat<q∧rI ((↑zp23_2.snd.1:Int) - (1:Int))∧(0:Int)≤(↑zp23_2.snd.1:Int) - (1:Int)∧(↑zp23_2.snd.1:Int) - (1:Int)<(↑q:Int)∧(0:Nat)+((↑zp23_2.snd.1:Int) - (1:Int)).toNat<q∧(∀ (i:Nat),i<q→True∧True∧True∧True)∧(0:Nat)+q≤q∧(∀ (i:Nat),i<q→rE (1:Nat)∧True)∧((SV.lst (3:Nat) q fun i=>(sal i).sv)=salL q fun i=>salOf (sal i).sv)∧(SV.lst (1:Nat) q fun i=>i6 (zp23_2.snd.snd (i+(0:Nat))))=iL q (iOf fun i=>i6 (zp23_2.snd.snd (i+(0:Nat))))∧((0:Int)≤zp23_2.snd.2 ((0
: Nat)+(↑zp23_2.snd.fst:Int).toNat)∧zp23_2.snd.2 ((0:Nat)+(↑zp23_2.snd.fst:Int).toNat)<(↑q:Int))∧((0:Int)≤zp23_2.snd.2 ((0:Nat)+((↑zp23_2.snd.fst:Int) - (1:Int)).toNat)∧zp23_2.snd.2 ((0:Nat)+((↑zp23_2.snd.fst:Int) - (1:Int)).toNat)<(↑q:Int))∧(cmpI (prS (fun i=>salOf (sal i).sv) (zp23_2.snd.2 ((0:Nat)+((↑zp23_2.snd.fst:Int) - (1:Int)).toNat))) (prS (fun i=>salOf (sal i).sv) (zp23_2.snd.2 ((0:Nat)+(↑zp23_2.snd.fst:Int).toNat)))<(0:Int)→(True∧True∧True∧True∧True∧True∧True∧True∧True∧True∧rI ((↑zp23_2.snd.1:Int) - (1:Int))∧True∧True∧True∧True∧True∧True∧rI ((↑zp23_2.snd.1:Int) - (1:Int))∧True∧True∧(0:Int)≤(↑zp23_2.snd.1:Int) - (1:Int)∧(↑zp23_2.snd.1:Int) - (1:Int)<(↑q:Int)∧True∧True∧(0:Nat)+((↑zp23_2.snd.1:Int) - (1:Int)).toNat<q∧True∧True
∧ True∧True∧(True∧True∧(0:Int)≤(↑zp23_2.snd.1:Int)∧(↑zp23_2.snd.1:Int)<(↑q:Int)∧True∧True∧(0:Nat)+(↑zp23_2.snd.1:Int).toNat<q∧True∧True∧(0:Int)≤(↑zp23_2.snd.1:Int)∧(↑zp23_2.snd.1:Int)<(↑q:Int)∧True∧True∧(0:Nat)+(1:Nat)≤(1:Nat)∧(0:Nat)+(↑zp23_2.snd.1:Int).toNat<q∧(∀ (i':Nat),rE true)∧True∧True∧(0:Int)≤(↑zp23_2.snd.1:Int) - (1:Int)∧(↑zp23_2.snd.1:Int) - (1:Int)<(↑q:Int)∧True∧True∧(0:Nat)+(1:Nat)≤(1:Nat)∧(0:Nat)+((↑zp23_2.snd.1:Int) - (1:Int)).toNat<q∧(∀ (i':Nat),rE true)∧(in3 q sal ((↑zp23_2.fst:Int).toNat,(↑zp23_2.snd.fst:Int).toNat,fun i=>prI (putR (putR (fun i=>i6 (zp23_2.snd.snd i)) ((0:Nat)+(↑zp23_2.snd.fst:Int).toNat) (0:Nat) (SV.int IntKind.i64 (zp23_2.snd.snd ((0:Nat)+((↑zp23_2.snd.fst:Int) - (1:Int)).toNat))))
((0:Nat)+((↑zp23_2.snd.fst:Int) - (1:Int)).toNat) (0:Nat) (SV.int IntKind.i64 (zp23_2.snd.snd ((0:Nat)+(↑zp23_2.snd.fst:Int).toNat))) i))∧rE ((↑zp23_2.1:Int).toNat*(64:Nat)+(↑zp23_2.snd.1:Int).toNat))∧rE (0:Nat)∧q=q∧rE (0:Int)∧rE (↑q:Int)∧rE (Fn.func (44:FuncId))∧q=q∧(nmG0 q sal)∧rE (0:Nat)∧q=q∧(↑zp23_2.1:Int)=(↑(↑zp23_2.1:Int).toNat:Int)∧(↑zp23_2.snd.1:Int)=(↑(↑zp23_2.snd.1:Int).toNat:Int)∧rE (Value.slice none (0:Nat) (0:Nat))∧rE (Value.slice none (0:Nat) (0:Nat))∧q=q∧(nmG0 q sal)∧rE (0:Nat)∧q=q∧q=q∧(∀ (i_3:Nat),i_3<q→rE (1:Nat)∧((if i_3=(0:Nat)+((↑zp23_2.snd.1:Int) - (1:Int)).toNat then zp23_2.snd.2 ((0:Nat)+(↑zp23_2.snd.fst:Int).toNat) else if i_3=(0:Nat)+(↑zp23_2.snd.1:Int).toNat then zp23_2.snd.2 ((0:Nat)+((↑zp23_2.snd.fst:Int) -
(1:Int)).toNat) else zp23_2.snd.2 i_3)=if i_3=(0:Nat)+((↑zp23_2.snd.1:Int) - (1:Int)).toNat then zp23_2.snd.2 ((0:Nat)+(↑zp23_2.snd.fst:Int).toNat) else if i_3=(0:Nat)+(↑zp23_2.snd.1:Int).toNat then zp23_2.snd.2 ((0:Nat)+((↑zp23_2.snd.fst:Int) - (1:Int)).toNat) else zp23_2.snd.2 i_3)∧True)∧True)∧True)∧∀ (zp23_3:Nat × Nat × (Nat→Int)),in3 q sal zp23_3∧zp23_3.1*(64:Nat)+zp23_3.snd.1=(↑zp23_2.1:Int).toNat*(64:Nat)+(↑zp23_2.snd.1:Int).toNat→rI ((↑zp23_3.snd.1:Int) - (1:Int))∧(in2 q sal ((↑zp23_3.fst:Int).toNat,((↑zp23_3.snd.fst:Int) - (1:Int)).toNat,fun i=>prI (i6 (zp23_3.snd.snd i)))∧(↑zp23_3.1:Int).toNat=(↑zp17_1.1:Int).toNat)∧((↑zp23_3.snd.1:Int) - (1:Int)).toNat<zp23_2.snd.1∧rE (0:Nat)∧q=q∧rE (0:Int)∧rE (↑q:Int)∧rE (Fn.func (44:FuncId))∧q=q∧(nmG0 q sal)∧rE
(0:Nat)∧q=q∧(↑zp23_3.1:Int)=(↑(↑zp23_3.1:Int).toNat:Int)∧(↑zp23_3.snd.1:Int) - (1:Int)=(↑((↑zp23_3.snd.1:Int) - (1:Int)).toNat:Int)∧rE (Value.slice none (0:Nat) (0:Nat))∧rE (Value.slice none (0:Nat) (0:Nat))∧q=q∧(nmG0 q sal)∧rE (0:Nat)∧q=q∧q=q∧(∀ (i_4:Nat),i_4<q→rE (1:Nat)∧rE (zp23_3.snd.2 i_4)∧True)∧True)∧(¬cmpI (prS (fun i=>salOf (sal i).sv) (zp23_2.snd.2 ((0:Nat)+((↑zp23_2.snd.fst:Int) - (1:Int)).toNat))) (prS (fun i=>salOf (sal i).sv) (zp23_2.snd.2 ((0:Nat)+(↑zp23_2.snd.fst:Int).toNat)))<(0:Int)→rI ((↑zp23_2.1:Int)+(1:Int))∧in1 q sal (((↑zp23_2.fst:Int)+(1:Int)).toNat,fun i=>prI (i6 (zp23_2.snd.snd i)))∧q - ((↑zp23_2.1:Int)+(1:Int)).toNat<q - zp17_1.1∧rE (0:Nat)∧q=q∧rE (0:Int)∧rE (↑q:Int)∧rE (Fn.func (44:FuncId))∧q=q∧(nmG0 q sal)
∧ rE (0:Nat)∧q=q∧(↑zp23_2.1:Int)+(1:Int)=(↑((↑zp23_2.1:Int)+(1:Int)).toNat:Int)∧rE (Value.slice none (0:Nat) (0:Nat))∧rE (Value.slice none (0:Nat) (0:Nat))∧q=q∧(nmG0 q sal)∧rE (0:Nat)∧q=q∧q=q∧(∀ (i_3:Nat),i_3<q→rE (1:Nat)∧rE (zp23_2.snd.2 i_3)∧True)∧True))∧(¬(0:Int)<(↑zp23_2.snd.1:Int)→rI ((↑zp23_2.1:Int)+(1:Int))∧in1 q sal (((↑zp23_2.fst:Int)+(1:Int)).toNat,fun i=>prI (i6 (zp23_2.snd.snd i)))∧q - ((↑zp23_2.1:Int)+(1:Int)).toNat<q - zp17_1.1∧rE (0:Nat)∧q=q∧rE (0:Int)∧rE (↑q:Int)∧rE (Fn.func (44:FuncId))∧q=q∧(nmG0 q sal)∧rE (0:Nat)∧q=q∧(↑zp23_2.1:Int)+(1:Int)=(↑((↑zp23_2.1:Int)+(1:Int)).toNat:Int)∧rE (Value.slice none (0:Nat) (0:Nat))∧rE (Value.slice none (0:Nat) (0:Nat))∧q=q∧(nmG0 q sal)∧rE (0:Nat)∧q=q ∧
q=q∧(∀ (i_3:Nat),i_3<q→rE (1:Nat)∧rE (zp23_2.snd.2 i_3)∧True)∧True))∧(¬(↑zp17_1.1:Int)<(↑q:Int)→((20:Int)<(↑z:Int)→rI ((2:Int)*(20:Int))∧False)∧(¬(20:Int)<(↑z:Int)→(0:Nat)<(1:Nat)∧(0:Nat)<(1:Nat)∧q=q∧(nmG0 q sal)∧q=q∧(0:Nat)+q≤q∧(∀ (i_2:Nat),i_2<q→rE (1:Nat)∧rE (1:Nat)∧zp17_1.2 (i_2+(0:Nat))=stF sal q i_2∧True)∧True))))):=by kernel_rfl
end Go.Proofs.Ytbedomoilakcaaa

namespace Go.Proofs.Ytbedomoilakcaaa
open Go Go.Lg
theorem yv_fold (Y:Yd):SV.agg [SV.lst 1 Y.g fun i=>i6 (Y.st i),SV.lst 5 Y.m fun i=>(Y.sti i).sv,SV.lst 3 Y.q fun i=>(Y.sal i).sv]=Y.sv:=rfl
end Go.Proofs.Ytbedomoilakcaaa

set_option maxRecDepth 100000
namespace Go.Proofs.Ytbedomoilakcaaa
open Go Go.Lg
attribute [local irreducible] funS bodyH
theorem vp_true {m:Nat} {f:Nat→Sti} {n:Nat} {p:Nat→Int} (hm:m≤4):vpG m f n p:=by
 rw [vpG_vc]
 simp only [rI,rE,tt3,tt4,tt5,tt13,tt14,rI,rE,tt3,tt4,tt5,tt13,tt14,and_true,true_and,Nat.zero_lt_one,and_self,implies_true,Int.toNat_natCast,Nat.zero_add,Nat.add_zero,Classical.not_not,iff_self,Bool.false_eq_true,imp_false,and_imp,true_implies,forall_const]
 refine ⟨fun h=>fF fun k=>h (by have:=k.e; omega),fun e=>⟨⟨0,⟨by omega,fun i hi=>by omega⟩,rfl⟩,fun z hz hi=>⟨fun hl=>⟨by omega,hl,by omega,by omega,fun h=>fF fun k=>h (k.h z (by omega)),fun a b=>⟨by omega,z+1,⟨by omega,up1 (P:=fun i=>0≤p i∧p i≤(f i).most) hi ⟨a,b⟩⟩,by omega,by omega⟩⟩,fun hl=>?_⟩⟩⟩
 have:z=n:=by omega
 subst this
 exact ⟨fun _=>⟨by omega,hi⟩,fun _=>trivial⟩
theorem vp_ok:vpC.Ok Try.prog:=by
 refine ⟨by kernel_rfl,fun x k hk=>?_⟩
 simp only [vpC] at hk
 split at hk
 ·rename_i m f n p
  obtain ⟨hf,hp,hm,hk⟩:=hk
  have hh:=vp_true (f:=fun i=>stiOf (f i)) (n:=n) (p:=iOf p) hm
  unfold vpG at hh
  rw [← hf,← hp] at hh
  exact ⟨_,plainD (one_cs fr_ok) nilS_x nilS_ic hh trivial,hk⟩
 ·exact hk.elim
theorem c6_eq {F:Nat→Tw} {i:Nat} (hi:i<6):c6 F i=F i:=by
 have:i=0∨i=1∨i=2∨i=3∨i=4∨i=5:=by omega
 rcases this with rfl | rfl | rfl | rfl | rfl | rfl <;> rfl
theorem e17_of {c d:Crs} {r:Prop} (hp:∀ i,i<4→c.p i=d.p i) (hl:∀ i,i<6→c.l i=d.l i) (hc:c.c=d.c) (h:r):e17 c d r:=by
 unfold e17
 rw [hl 0 (by omega),hl 1 (by omega),hl 2 (by omega),hl 3 (by omega),hl 4 (by omega),hl 5 (by omega)]
 exact ⟨hp 0 (by omega),hp 1 (by omega),hp 2 (by omega),hp 3 (by omega),rfl,rfl,rfl,rfl,rfl,rfl,rfl,rfl,rfl,rfl,rfl,rfl,hc,h⟩
theorem e17_r {c:Crs} {r:Prop} (h:r):e17 c c r:=e17_of (fun _ _=>rfl) (fun _ _=>rfl) rfl h
theorem bdC_r {b:Int} {c:Crs} (h:bdC b c):bdC b (r17 c):=⟨bd_c6 h.1,h.2⟩
theorem can_r {c:Crs} {s:Sti} {t:Int} (h:s.inn.toNat<6):canP (r17 c) s t↔canP c s t:=by
 unfold canP
 show _≤(c6 c.l s.inn.toNat).lo↔_
 rw [c6_eq h]
theorem nx_r {c:Crs} {a:Int} {s:Sti} {t:Int} {r:Prop} (h:r):e17 (nxC (r17 c) a s t) (nxC c a s t) r:=by
 refine e17_of (fun i hi=>?_) (fun i hi=>?_) rfl h
 ·simp only [nxC]
  have:(r17 c).p i=c.p i:=by
   have:i=0∨i=1∨i=2∨i=3:=by omega
   rcases this with rfl | rfl | rfl | rfl <;> rfl
  rw [this]
 ·simp only [nxC,adG]
  rw [show (r17 c).l i=c.l i from c6_eq hi]
theorem okSt_of {g:Int} {s:Sti} (hg:g≤6) (h:okSti g s):okSt s:=⟨h.i0,by have:=h.i1; omega,h.t0,h.t1,by have:=h.n; omega,fun k hk=>(h.o k hk).2,h.p0,h.p1⟩
theorem st_bd {n:Nat} {st:Nat→Int} (h:∀ i,i<n→okNb 1048576 (st i)):bdC 100000000 (stC n st):=by
 refine ⟨fun i hi=>?_,by simp only [stC]; omega⟩
 simp only [stC]
 split
 ·rename_i k
  have:=h i k
  unfold okNb at this
  simp only; omega
 ·simp only; omega
theorem pl_bd {Y:Yd} (hY:okYd Y) {n:Nat} {p:Nat→Int} (hp:okPl Y.m Y.sti n p):∀ k,k≤Y.m→bdC (100000000*(k+1)) (plX Y p k)
 | 0,_=>by
  rw [show (100000000:Int)*((0:Nat)+1)=100000000 by decide]
  exact st_bd hY.g.c
 | k+1,hk=>by
  have h1:=pl_bd hY hp k (by omega)
  have s:=(hY.s.b k (by omega)).2
  have hs:=okSt_of (by have:=hY.g.b; omega) s
  have t:okT (p k):=by
   have:=hp.h k (by have:=hp.e; omega)
   have h2:=s.m1
   unfold okNb at this
   exact ⟨this.1,by omega⟩
  have pay:=mul_bd t.1 t.2 hs.p0 hs.p1
  refine ⟨?_,?_⟩
  ·have:=bd_ad (bd_ad (bd_ad (bd_z (b:=0) (by omega)) h1.1 (c:=100000000*(k+1)) (by omega)) (bd_tk hs t) (c:=100000000*(k+1)+10000000) (by omega)) (bd_md hs t) (c:=100000000*((k+1:Nat)+1)) (by push_cast; omega)
   exact this
  ·have:=h1.2
   show _≤(plX Y p k).c+p k*(Y.sti k).pay∧(plX Y p k).c+p k*(Y.sti k).pay≤_
   push_cast; omega
theorem py_true (Y:Yd) (n:Nat) (p:Nat→Int):pyG Y n p:=by
 rw [pyG_vc]
 simp only [rI,rE,tt3,tt4,tt5,tt13,tt14,rI,rE,tt3,tt4,tt5,tt13,tt14,and_true,true_and,Nat.zero_lt_one,and_self,implies_true,Int.toNat_natCast,Nat.zero_add,Nat.add_zero,Classical.not_not,iff_self,Bool.false_eq_true,imp_false,and_imp,true_implies,forall_const,ft_fold,sti_fold,sal_fold,yd_fold,iOf_fold,stiOf_fold,salOf_fold,yv_fold]
 refine ⟨fun h=>?_,fun h=>⟨rfl,rfl,h.s.a,fun h1=>?_,fun h1=>⟨rfl,h.g.b,⟨0,⟨by omega,fun i hi=>by omega⟩,rfl,?_⟩,fun z hz hc=>⟨fun hl=>?_,fun hl=>?_⟩⟩⟩⟩
 ·have e:erP Y n p=1:=by rw [erP,if_neg h]
  rw [plR,if_neg (by omega),e]; exact e17_r rfl
 ·have e:erP Y n p=2:=by rw [erP,if_pos h,if_neg h1]
  rw [plR,if_neg (by omega),e]; exact e17_r rfl
 ·exact ⟨rfl,rfl,rfl,rfl,rfl,rfl,rfl,rfl,rfl,rfl,rfl,rfl,rfl,rfl,rfl,rfl,rfl⟩
 ·have hm:=h1.e
  have s:=(h.s.b z (by omega)).2
  have hs:=okSt_of (by have:=h.g.b; omega) s
  have t:okT (p z):=by
   have:=h1.h z (by omega)
   have h2:=s.m1
   unfold okNb at this
   exact ⟨this.1,by omega⟩
  have hb:=pl_bd h h1 z (by omega)
  have hma:=h.s.a
  have inn:(Y.sti z).inn.toNat<6:=by have:=hs.i0; have:=hs.i1; omega
  refine ⟨by omega,hl,by omega,by omega,rfl,by omega,hs,t,bdC_r ⟨bd_mono hb.1 (by omega),by have:=hb.2; omega⟩,fun h2=>?_,fun h2=>⟨by omega,z+1,⟨by omega,up1 hc ((can_r inn).1 h2)⟩,by omega,by omega,?_⟩⟩
  ·have e:erP Y n p=10:=by rw [erP,if_pos h,if_pos h1,if_neg fun hh=>h2 ((can_r inn).2 (hh z (by omega)))]
   rw [plR,if_neg (by omega),e]; exact e17_r rfl
  ·rw [wiX,if_pos h2]; exact nx_r trivial
 ·have ez:z=n:=by omega
  subst ez
  have hm:=h1.e
  have e:erP Y z p=0:=by rw [erP,if_pos h,if_pos h1,if_pos (by rw [← hm]; exact hc)]
  rw [plR,if_pos e,e,hm]; exact e17_r rfl
theorem csP_sound:SoundS Try.prog csP:=ctrs_sound (by
 intro x hx
 simp at hx
 rcases hx with rfl | rfl | rfl | rfl
 ·exact yd_ok
 ·exact vp_ok
 ·exact nc_ok
 ·exact wi_ok)
theorem py_ok:pyC.Ok Try.prog:=by
 refine ⟨by kernel_rfl,fun x k hk=>?_⟩
 simp only [pyC] at hk
 split at hk
 ·rename_i g st m sti q sal n p
  obtain ⟨hf,hp,hk⟩:=hk
  have hh:=py_true (ydOf g st m sti q sal) n (iOf p)
  unfold pyG at hh
  rw [← hf,← hp] at hh
  exact ⟨_,plainD csP_sound nilS_x nilS_ic hh (by simp [plainS,plainS.plainL,Crs.sv,Crs.cells]),hk⟩
 ·exact hk.elim
theorem erP_ok {Y:Yd} {n:Nat} {p:Nat→Int} (h:erP Y n p=0):okYd Y∧okPl Y.m Y.sti n p∧canL Y p Y.m:=by
 unfold erP at h
 split at h
 ·rename_i h1
  split at h
  ·rename_i h2
   split at h
   ·rename_i h3; exact ⟨h1,h2,h3⟩
   ·omega
  ·omega
 ·omega
theorem cr_hi (c:Crs) {z:Nat} (h:z<6):cellZ c.cells (4+z*2+1)=(c.l z).hi:=by
 have:z=0∨z=1∨z=2∨z=3∨z=4∨z=5:=by omega
 rcases this with rfl | rfl | rfl | rfl | rfl | rfl <;> rfl
theorem csv_cells (c:Crs):c.sv.cells=c.cells:=rfl
theorem lf_true (Y:Yd) (n:Nat) (p:Nat→Int):lfG Y n p:=by
 rw [lfG_vc]
 simp only [rI,rE,tt3,tt4,tt5,tt13,tt14,rI,rE,tt3,tt4,tt5,tt13,tt14,and_true,true_and,Nat.zero_lt_one,and_self,implies_true,Int.toNat_natCast,Nat.zero_add,Nat.add_zero,Classical.not_not,iff_self,Bool.false_eq_true,imp_false,and_imp,true_implies,forall_const,ft_fold,sti_fold,sal_fold,yd_fold,iOf_fold,stiOf_fold,salOf_fold,yv_fold,csv_cells]
 refine ⟨rfl,fun h=>by rw [lfN,if_neg h],fun h=>?_⟩
 obtain ⟨h1,h2,h3⟩:=erP_ok h
 have g6:=h1.g.b
 refine ⟨by omega,by omega,by omega,⟨0,by omega,rfl,by omega,by omega,rfl,by rw [plR,if_pos h]; exact e17_r rfl⟩,fun z hz=>⟨fun hl=>?_,fun hl=>?_⟩⟩
 ·have hz:z<6:=by omega
  rw [cr_lo _ hz,cr_hi _ hz]
  refine ⟨by omega,hl,by omega,by omega,by omega,by omega,z+1,by omega,by omega,rfl,by omega,rfl,fun i hi=>?_⟩
  by_cases e:i<z
  ·simp only [if_pos e]; exact ⟨trivial,trivial⟩
  ·have:i=z:=by omega
   subst this; simp only [if_neg e]; exact ⟨trivial,trivial⟩
 ·have:z=Y.g:=by omega
  rw [lfN,if_pos h]
  exact ⟨this,by omega,h.symm⟩
theorem lf_ok:lfC.Ok Try.prog:=by
 refine ⟨by kernel_rfl,fun x k hk=>?_⟩
 simp only [lfC] at hk
 split at hk
 ·rename_i g st m sti q sal n p
  obtain ⟨hf,hp,hk⟩:=hk
  have hh:=lf_true (ydOf g st m sti q sal) n (iOf p)
  unfold lfG at hh
  rw [← hf,← hp] at hh
  refine ⟨_,newD (one_cs py_ok) ?_ nilS_ic hh (by simp [flatS,flatSL,scS,SV.cells,twL,Tw.sv,lfR]),hk⟩
  unfold lfX
  exact inl_sound nilS_cs nilS_x (ys:=none) trivial nilS_ic mixed
 ·exact hk.elim
theorem nan_ok:nanC.Ok Try.prog:=by
 refine ⟨by kernel_rfl,fun x k hk=>?_⟩
 simp only [nanC] at hk
 split at hk
 ·rename_i a
  have hh:nanG a:=by rw [nanG_vc]; simp
  exact ⟨_,plainD nilS_cs nilS_x nilS_ic hh trivial,hk⟩
 ·exact hk.elim
theorem cm_true (a b:Int):cmG a b:=by
 rw [cmG_vc]
 simp only [rI,rE,tt3,tt4,tt5,tt13,tt14,rI,rE,and_true,true_and,Bool.false_eq_true,false_implies,implies_true,forall_const,not_false_eq_true,true_implies]
 unfold cmpI
 exact ⟨fun h=>by rw [if_pos h],fun h=>⟨fun h2=>by rw [if_neg h,if_pos h2],fun h2=>by rw [if_neg h,if_neg h2]⟩⟩
theorem cm_ok:cmC.Ok Try.prog:=by
 refine ⟨by kernel_rfl,fun x k hk=>?_⟩
 simp only [cmC] at hk
 split at hk
 ·rename_i a b
  exact ⟨_,plainD (one_cs nan_ok) nilS_x nilS_ic (cm_true a b) trivial,hk⟩
 ·exact hk.elim
theorem co_ok:coC.Ok Try.prog:=by
 refine ⟨by kernel_rfl,fun x k hk=>?_⟩
 simp only [coC] at hk
 split at hk
 ·rename_i q sal n o a b
  obtain ⟨hf,hp,h1,h2,hk⟩:=hk
  have hh:coG q n (fun i=>salOf (sal i)) (iOf o) a b:=by
   rw [coG_vc]
   simp only [rI,rE,tt3,tt4,tt5,tt13,tt14,rI,rE,and_true,true_and,Nat.zero_lt_one]
   exact ⟨h2.1,h2.2,h1.1,h1.2,rfl⟩
  unfold coG at hh
  rw [← hf,← hp] at hh
  exact ⟨_,plainD (one_cs cm_ok) nilS_x nilS_ic hh trivial,hk⟩
 ·exact hk.elim
theorem cmpI_neg {x y:Int}:cmpI x y<0↔x<y:=by
 unfold cmpI
 split
 ·rename_i h; exact ⟨fun _=>h,fun _=>by omega⟩
 ·rename_i h
  split
  ·exact ⟨fun h=>by omega,fun h2=>absurd h2 h⟩
  ·exact ⟨fun h=>by omega,fun h2=>absurd h2 h⟩
theorem swp_congr {f g:Nat→Int} {q j:Nat} (h:∀ k,k<q→f k=g k) (hj:j<q):∀ k,k<q→swp f j k=swp g j k:=fun k hk=>by
 unfold swp
 rw [h j hj,h (j - 1) (by omega),h k hk]
theorem inF_congr {sal:Nat→Sal} {q:Nat}:∀ {j:Nat} {f g:Nat→Int},(∀ k,k<q→f k=g k)→j<q→∀ k,k<q→inF sal f j k=inF sal g j k
 | 0,f,g,h,_,k,hk=>h k hk
 | j+1,f,g,h,hj,k,hk=>by
  simp only [inF]
  rw [h (j+1) hj,h j (by omega)]
  split
  ·exact inF_congr (swp_congr h hj) (by omega) k hk
  ·exact h k hk
theorem swp_bd {P:Int→Prop} {f:Nat→Int} {q j:Nat} (h:∀ k,k<q→P (f k)) (hj:j<q):∀ k,k<q→P (swp f j k):=fun k hk=>by
 unfold swp
 split
 ·exact h j hj
 ·split
  ·exact h _ (by omega)
  ·exact h k hk
theorem inF_bd {P:Int→Prop} {sal:Nat→Sal} {q:Nat}:∀ {j:Nat} {f:Nat→Int},(∀ k,k<q→P (f k))→j<q→∀ k,k<q→P (inF sal f j k)
 | 0,f,h,_,k,hk=>h k hk
 | j+1,f,h,hj,k,hk=>by
  simp only [inF]
  split
  ·exact inF_bd (swp_bd h hj) (by omega) k hk
  ·exact h k hk
theorem stF_bd {sal:Nat→Sal} {q:Nat}:∀ i,i≤q→∀ k,k<q→0≤stF sal i k∧stF sal i k<q
 | 0,_,k,hk=>by simp only [stF]; omega
 | i+1,hi,k,hk=>by
  simp only [stF]
  exact inF_bd (P:=fun x=>0≤x∧x<(q:Int)) (fun k hk=>stF_bd i (by omega) k hk) (by omega) k hk
theorem nm_true {q:Nat} {sal:Nat→Sal} (hq:q≤6):nmG q sal:=by
 rw [nmG_vc]
 simp only [nmG0,rI,rE,tt3,tt4,tt5,tt13,tt14,rI,rE,tt3,tt4,tt5,tt13,tt14,and_true,true_and,Nat.zero_lt_one,and_self,implies_true,Int.toNat_natCast,Nat.zero_add,Nat.add_zero,Classical.not_not,iff_self,Bool.false_eq_true,imp_false,and_imp,true_implies,forall_const,ft_fold,sti_fold,sal_fold,yd_fold,iOf_fold,stiOf_fold,salOf_fold,yv_fold]
 refine ⟨⟨0,by omega,rfl,rfl,rfl⟩,fun z hz=>⟨fun hl=>⟨by omega,by omega,by omega,z+1,by omega,by omega,by omega,rfl,rfl,fun i hi=>?_⟩,fun hl=>⟨fun h=>by omega,fun _=>⟨by omega,⟨?_,by omega,by omega,by omega,by omega,by omega,by omega⟩,?_⟩⟩⟩⟩
 ·by_cases e:i<z
  ·rw [if_pos e]
  ·rw [if_neg e]; omega
 ·exact ⟨by decide,by show (0+1:Int).toNat≤max 1 q; omega,fun k hk=>rfl⟩
 ·rintro ⟨i,f⟩ hi
  have a1:=hi.a
  have a2:=hi.b
  have a3:=hi.f
  simp only at a1 a2 a3 ⊢
  refine ⟨fun hl=>⟨⟨a1,by show i<q; omega,Nat.le_refl _,fun k hk=>?_,fun k hk=>?_⟩,?_⟩,fun hl=>⟨fun h=>by omega,fun _=>⟨Nat.le_refl _,fun k hk=>?_⟩⟩⟩
  ·show inF sal f i k=inF sal (stF sal i) i k
   exact inF_congr a3 (by omega) k hk
  ·have:=stF_bd (sal:=sal) i (by omega:i≤q) k hk
   show 0≤f k∧f k<q
   rw [a3 k hk]; exact this
  ·rintro ⟨i',j,f'⟩ hj e
   simp only at e
   subst e
   have b1:=hj.b
   have b2:=hj.c
   have b3:=hj.f
   have b4:=hj.r
   simp only at b1 b2 b3 b4 ⊢
   have nx:(∀ k,k<q→f' k=stF sal (i'+1) k)→(-9223372036854775808≤(i':Int)+1∧(i':Int)+1≤9223372036854775807)∧in1 q sal (((i':Int)+1).toNat,fun i=>prI (i6 (f' i)))∧q - ((i':Int)+1).toNat<q - i'∧(i':Int)+1=((((i':Int)+1).toNat:Nat):Int):=fun hf=>by
    have e:((i':Int)+1).toNat=i'+1:=by omega
    rw [e]
    exact ⟨by omega,⟨by show 1≤i'+1; omega,by show i'+1≤max 1 q; omega,hf⟩,by omega,by omega⟩
   refine ⟨fun h0=>?_,fun h0=>nx fun k hk=>?_⟩
   ·obtain ⟨j,rfl⟩:∃ j',j=j'+1:=⟨j - 1,by omega⟩
    have ej:(((j+1:Nat):Int) - 1).toNat=j:=by omega
    rw [ej]
    have hlt:cmpI (prS sal (f' j)) (prS sal (f' (j+1)))<0↔ltS sal (f' (j+1)) (f' j):=cmpI_neg
    refine ⟨by omega,by omega,by omega,by omega,by omega,by omega,by omega,Nat.le_refl _,rfl,rfl,b4 _ (by omega),b4 _ (by omega),fun hc=>⟨⟨by omega,by omega,by omega,by omega,by omega,by omega,by omega,by omega,by omega,by omega,by omega,by omega,by omega,by omega,by omega,by omega,?_⟩,?_⟩,fun hc=>nx fun k hk=>?_⟩
    ·refine ⟨a1,b1,b2,by show 1≤j+1; omega,fun k hk=>?_,fun k hk=>?_⟩
     ·show inF sal (swp f' (j+1)) j k=_
      have:=b3 k hk
      simp only [inF] at this
      rw [if_pos (hlt.1 hc)] at this
      exact this
     ·exact swp_bd (P:=fun x=>0≤x∧x<(q:Int)) b4 (by omega:j+1<q) k hk
    ·rintro ⟨i2,j2,f2⟩ h2 e2
     have c1:=h2.b
     have c2:=h2.c
     have c3:=h2.d
     simp only at e2 c1 c2 c3 ⊢
     obtain ⟨rfl,rfl⟩:i2=i'∧j2=j+1:=by omega
     rw [ej]
     exact ⟨by omega,⟨⟨a1,c1,by show j≤i2; omega,h2.f,h2.r⟩,rfl⟩,by omega,by omega⟩
    ·have:=b3 k hk
     simp only [inF] at this
     rw [if_neg fun h=>hc (hlt.2 h)] at this
     exact this
   ·have e0:j=0:=by omega
    subst e0
    exact b3 k hk
  ·have:i=q:=by omega
   subst this
   exact a3 k hk
noncomputable def nmC:Ctr:=⟨26,fun args k=>match args with
 | [.lst 3 q sal]=>SV.lst 3 q sal=salL q (fun i=>salOf (sal i))∧q≤6∧k (.agg [salL q (fun i=>salOf (sal i)),iL q (stF (fun i=>salOf (sal i)) q)])
 | _=>False⟩
theorem nm_ok:nmC.OkF Try.prog:=by
 refine ⟨by kernel_rfl,fun x k hk=>?_⟩
 simp only [nmC] at hk
 split at hk
 ·rename_i q sal
  obtain ⟨hf,hq,hk⟩:=hk
  have hh:=nm_true (sal:=fun i=>salOf (sal i)) hq
  unfold nmG at hh
  rw [← hf] at hh hk
  refine ⟨_,funH_does nilS_cs ?_ nilS_ic mixed hh,hk⟩
  unfold nmX
  exact inl_sound (one_cs co_ok) (inl_sound (one_cs co_ok) (inl_sound (one_cs co_ok) nilS_x (ys:=none) trivial nilS_ic mixed) (ys:=none) trivial nilS_ic mixed) (ys:=none) trivial nilS_ic mixed
 ·exact hk.elim
end Go.Proofs.Ytbedomoilakcaaa
