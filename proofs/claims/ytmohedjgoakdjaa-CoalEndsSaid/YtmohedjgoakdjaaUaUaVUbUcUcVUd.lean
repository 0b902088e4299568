import Derived.Test.YtmohedjgoakdjaaQeQfQfVQg
set_option linter.unusedVariables false
set_option linter.unusedSimpArgs false
namespace Go.Proofs.Ytmohedjgoakdjaa
open Go Go.Lg
attribute [local irreducible] bodyH funS
structure Tn where
 n:Nat
 f:Nat→Int
def Tn.sv (T:Tn):SV:=.lst 1 T.n fun i=>i6 (T.f i)
def inOf:SV→Int
 | .int _ z=>z
 | _=>0
def tnOf (n:Nat) (f:Nat→SV):Tn:=⟨n,fun i=>inOf (f i)⟩
structure okT (T:Tn):Prop where
 n:T.n≤6
 h:∀ i,i<T.n→0≤T.f i∧T.f i≤1000000000
def biP (S:Int) (i:Int):Prop:=bitA .i64 (S.fdiv (shP i)) 1=1
open Classical in
noncomputable def akI (T:Tn) (S:Int) (i:Nat):Int:=if biP S i then T.f i else 0
noncomputable def asJ (T:Tn) (S:Int) (j:Nat):Int:=sumJ (akI T S) j
noncomputable def asS (T:Tn) (S:Int):Int:=asJ T S T.n
noncomputable def asG (T:Tn) (S:Int):Prop:=funH Try.prog (ctrs []) noX (ictrs [])
 (oneL 0 (natH (fun k=>k≤T.n) (fun k=>T.n - k) 0 (fun k=>mkF 25 [(1,i6 S),(5,i6 (asJ T S k)),(8,T.sv),(9,i6 T.n),(10,i6 k)]) (fun _=>mkX []) fun _=>none)) noL 65 [T.sv,i6 S] (i6 (asS T S))
noncomputable def asC:Ctr:=⟨65,fun args k=>match args with
 | [.lst 1 n f,.int .i64 S]=>∃ g:Nat→Int,(∀ i,i<n→f i=i6 (g i))∧okT ⟨n,g⟩∧k (i6 (asS ⟨n,g⟩ S))
 | _=>False⟩
def lyT (l:La):Tn:=⟨6,fun i=>l.at i⟩
structure Po where
 n:Nat
 f:Nat→Pn
def Po.sv (p:Po):SV:=.lst 10 p.n fun i=>(p.f i).sv
def poOf (n:Nat) (f:Nat→SV):Po:=⟨n,fun i=>pnOf (f i)⟩
structure okPo (p:Po):Prop where
 n:p.n≤32
 h:∀ i,i<p.n→okP (p.f i)
noncomputable def roJ (p:Po) (S:Int) (j:Nat):Int:=sumJ (fun i=>min (p.f i).tn (asS (lyT (p.f i).l) S)) j
noncomputable def roS (p:Po) (S:Int):Int:=roJ p S p.n
noncomputable def roG (p:Po) (S:Int):Prop:=funH Try.prog (ctrs [asC]) noX (ictrs [])
 (oneL 0 (natH (fun k=>k≤p.n) (fun k=>p.n - k) 0 (fun k=>mkF 26 [(1,i6 S),(5,i6 (roJ p S k)),(8,p.sv),(9,i6 p.n),(10,i6 k)]) (fun _=>mkX []) fun _=>none)) noL 66 [p.sv,i6 S] (i6 (roS p S))
noncomputable def roC:Ctr:=⟨66,fun args k=>match args with
 | [.lst 10 n f,.int .i64 S]=>SV.lst 10 n f=(poOf n f).sv∧okPo (poOf n f)∧k (i6 (roS (poOf n f) S))
 | _=>False⟩
noncomputable def frR (p:Po) (T:Tn):Nat→Nat→Int→Prop
 | 0,k,S=>asS T S≤roS p S
 | r+1,k,S=>frR p T r (k+1) S∧frR p T r (k+1) (bitO .i64 S (shP k))
structure Fr where
 p:Po
 T:Tn
 k:Int
 S:Int
def frO:SV:=.clo (.func 64) [] [.ptr 1 0 0,.ptr 0 0 0,.ptr 2 0 0]
noncomputable def frX (p:Po) (T:Tn):XS:=mkX [vr 1 p.sv,vr 1 T.sv,vr 1 frO]
structure Fr.ok (M:Nat) (x:Fr):Prop where
 p:okPo x.p
 T:okT x.T
 k:0≤x.k∧x.k≤x.T.n
 m:x.T.n - x.k.toNat<M
 S:0≤x.S∧x.S<2 ^ x.k.toNat
noncomputable def frP (p:Po) (T:Tn) (k:Nat) (S:Int):Prop:=frR p T (T.n - k) k S
theorem rdFr (a:List SV) (X:XS) (k:Fr→Prop) (h:(match a with
  | [.int _ z,.int _ S,_,_,_]=>(match X.row 0,X.row 1 with
   | some R0,some R1=>(match R0.f 0,R1.f 0 with
    | .lst 10 n f,.lst 1 m g=>SV.lst 10 n f=(poOf n f).sv∧SV.lst 1 m g=(tnOf m g).sv∧k ⟨poOf n f,tnOf m g,z,S⟩
    | _,_=>False)
   | _,_=>False)
  | _=>False)):∃ s,k s:=by
 split at h
 ·split at h
  ·split at h
   ·exact ⟨_,h.2.2⟩
   ·exact h.elim
  ·exact h.elim
 ·exact h.elim
noncomputable def frC (M:Nat):SCtr where
 f:=64
 p:=Fr
 pre:=Fr.ok M
 X0:=fun x=>frX x.p x.T
 args:=fun x=>[i6 x.k,i6 x.S,.ptr 1 0 0,.ptr 0 0 0,.ptr 2 0 0]
 res:=fun x=>.dec (frP x.p x.T x.k.toNat x.S) (Classical.propDecidable _)
 rd:=fun a X k=>match a with
  | [.int _ z,.int _ S,_,_,_]=>(match X.row 0,X.row 1 with
   | some R0,some R1=>(match R0.f 0,R1.f 0 with
    | .lst 10 n f,.lst 1 m g=>SV.lst 10 n f=(poOf n f).sv∧SV.lst 1 m g=(tnOf m g).sv∧k ⟨poOf n f,tnOf m g,z,S⟩
    | _,_=>False)
   | _,_=>False)
  | _=>False
 rdOK:=rdFr
noncomputable def csF (M:Nat):CSpec:=ctrsQ [frC M] (ctrs [asC,roC])
noncomputable def frG (M:Nat) (x:Fr):Prop:=stH Try.prog (csF M) noX (ictrs []) noL noL 64 (frX x.p x.T) [i6 x.k,i6 x.S,.ptr 1 0 0,.ptr 0 0 0,.ptr 2 0 0] (.dec (frP x.p x.T x.k.toNat x.S) (Classical.propDecidable _))
noncomputable def ftG (p:Po) (T:Tn):Prop:=funH Try.prog (csF 100) noX (ictrs []) noL noL 47 [p.sv,T.sv] (.dec (frP p T 0 0) (Classical.propDecidable _))
noncomputable def ftC:Ctr:=⟨47,fun args k=>match args with
 | [.lst 10 n f,.lst 1 m g]=>SV.lst 10 n f=(poOf n f).sv∧SV.lst 1 m g=(tnOf m g).sv∧(okPo (poOf n f)∧okT (tnOf m g))∧k (.dec (frP (poOf n f) (tnOf m g) 0 0) (Classical.propDecidable _))
 | _=>False⟩
noncomputable def tsJ (T:Tn) (j:Nat):Int:=sumJ T.f j
structure auK (T:Tn) (a:Int) (k:Nat):Prop where
 h:∀ i,i<k→0≤T.f i∧T.f i≤a - tsJ T i
structure auP (T:Tn) (a:Int):Prop where
 h:auK T a T.n
 e:a=tsJ T T.n
noncomputable def auG (T:Tn) (a:Int):Prop:=funH Try.prog (ctrs []) noX (ictrs [])
 (oneL 0 (natH (fun k=>k≤T.n∧auK T a k) (fun k=>T.n - k) 0 (fun k=>mkF 26 [(1,i6 (a - tsJ T k)),(7,T.sv),(8,i6 T.n),(9,i6 k)]) (fun _=>mkX []) fun _=>none)) noL 46 [T.sv,i6 a] (.dec (auP T a) (Classical.propDecidable _))
noncomputable def auC:Ctr:=⟨46,fun args k=>match args with
 | [.lst 1 n f,.int .i64 a]=>SV.lst 1 n f=(tnOf n f).sv∧(n≤6∧0≤a∧a≤1000000000)∧k (.dec (auP (tnOf n f) a) (Classical.propDecidable _))
 | _=>False⟩
noncomputable def dwP (Y:Yd) (a:Int):Po:=⟨(dwL Y a).length,fun i=>(dwL Y a).getD i zP⟩
open Classical in
noncomputable def caE (Y:Yd) (a:Int) (T:Tn):Int:=if drE Y a a=0 then (if T.n=Y.c.n then 0 else 2) else drE Y a a
structure caP (Y:Yd) (a:Int) (T:Tn):Prop where
 e:caE Y a T=0
 u:auP T ((drS Y a a).hi - (drS Y a a).lo)
 f:frP (dwP Y a) T 0 0
noncomputable def caC:Ctr:=⟨21,fun args k=>match args with
 | [.agg [.lst 8 n f,.lst 3 m g],.int .i64 a,.lst 1 x y]=>SV.lst 8 n f=(clOf n f).sv∧SV.lst 3 m g=(msOf m g).sv∧∃ g0:Nat→Int,(∀ i,i<x→y i=i6 (g0 i))∧k (.tup [.dec (caP ⟨clOf n f,msOf m g⟩ a ⟨x,g0⟩) (Classical.propDecidable _),i6 (caE ⟨clOf n f,msOf m g⟩ a ⟨x,g0⟩)])
 | _=>False⟩
noncomputable def caG (Y:Yd) (a:Int) (T:Tn):Prop:=funH Try.prog (ctrs [drC,poC,auC,ftC]) noX (ictrs []) noL noL 21 [Y.sv,i6 a,T.sv] (.tup [.dec (caP Y a T) (Classical.propDecidable _),i6 (caE Y a T)])
end Go.Proofs.Ytmohedjgoakdjaa

set_option maxRecDepth 100000
namespace Go.Proofs.Ytmohedjgoakdjaa
open Go Go.Lg
theorem asG_vc (T:Tn) (S:Int):asG T S =
((∃ (z:Nat),z≤T.1∧S=S∧(0:Int)=asJ T S z∧T.1=T.1∧(∀ (i:Nat),i<T.1→rE ((i6 (T.f i)).den)∧True)∧rE (↑T.1:Int)∧(0:Int)=(↑z:Int)∧True)∧∀ (z:Nat),z≤T.1→((↑z:Int)<(↑T.1:Int)→(0:Int)≤(↑z:Int)∧(↑z:Int)<(↑T.1:Int)∧((0:Int)≤(↑z:Int)∧(↑z:Int)≤(↑(64:Nat):Int))∧(bitA IntKind.i64 (S.fdiv (shP (↑z:Int))) (1:Int)=(1:Int)→rI (asJ T S z+T.2 (↑z:Int).toNat)∧rI ((↑z:Int)+(1:Int))∧∃ (z_1:Nat),z_1≤T.1∧T.1 - z_1<T.1 - z∧S=S∧asJ T S z+T.2 (↑z:Int).toNat=asJ T S z_1∧T.1=T.1∧(∀ (i:Nat),i<T.1→rE ((i6 (T.f i)).den)∧True)∧rE (↑T.1:Int)∧(↑z:Int)+(1:Int)=(↑z_1:Int)∧True)∧(¬bitA IntKind.i64 (S.fdiv (shP (↑z:Int))) (1:Int)=(1:Int)→rI ((↑z:Int)+(1:Int))∧∃ (z_1:Nat),z_1≤T.1∧T.1 - z_1<T.1 - z∧S=S∧asJ T S z=asJ T S z_1
∧ T.1=T.1∧(∀ (i:Nat),i<T.1→rE ((i6 (T.f i)).den)∧True)∧rE (↑T.1:Int)∧(↑z:Int)+(1:Int)=(↑z_1:Int)∧True))∧(¬(↑z:Int)<(↑T.1:Int)→asJ T S z=asS T S∧True)):=by kernel_rfl
theorem roG_vc (p:Po) (S:Int):roG p S =
((∃ (z:Nat),z≤p.1∧S=S∧(0:Int)=roJ p S z∧p.1=p.1∧(∀ (i:Nat),i<p.1→rE ((p.f i).sv.den)∧True∧True∧True∧True∧True∧True∧True∧True∧True∧True∧True)∧rE (↑p.1:Int)∧(0:Int)=(↑z:Int)∧True)∧∀ (z:Nat),z≤p.1→((↑z:Int)<(↑p.1:Int)→(0:Int)≤(↑z:Int)∧(↑z:Int)<(↑p.1:Int)∧(0:Nat)<(1:Nat)∧(0:Int)≤(0:Int)∧(0:Int)≤(↑(6:Nat):Int)∧(↑(6:Nat):Int)≤(↑(6:Nat):Int)∧(0:Nat)<(1:Nat)∧rE (10:Nat)∧(0:Nat)+((↑(6:Nat):Int) - (0:Int)).toNat≤(10:Nat)∧True∧True∧True∧True∧True∧True∧True∧True∧True∧True∧(∀ (q:Nat),q<((↑(6:Nat):Int) - (0:Int)).toNat→([SV.int IntKind.i64 (p.f (↑z:Int).toNat).l.c0,SV.int IntKind.i64 (p.f (↑z:Int).toNat).l.c1,SV.int IntKind.i64 (p.f (↑z:Int).toNat).l.c2,SV.int IntKind.i64 (p.f (↑z:Int).toNat).l.c3,
SV.int IntKind.i64 (p.f (↑z:Int).toNat).l.c4,SV.int IntKind.i64 (p.f (↑z:Int).toNat).l.c5,SV.int IntKind.i64 (p.f (↑z:Int).toNat).l.fr,SV.int IntKind.i64 (p.f (↑z:Int).toNat).l.to,SV.int IntKind.i64 (p.f (↑z:Int).toNat).nu,SV.int IntKind.i64 (p.f (↑z:Int).toNat).tn].getD ((0:Nat)+q) SV.any).cells=[[SV.int IntKind.i64 (p.f (↑z:Int).toNat).l.c0,SV.int IntKind.i64 (p.f (↑z:Int).toNat).l.c1,SV.int IntKind.i64 (p.f (↑z:Int).toNat).l.c2,SV.int IntKind.i64 (p.f (↑z:Int).toNat).l.c3,SV.int IntKind.i64 (p.f (↑z:Int).toNat).l.c4,SV.int IntKind.i64 (p.f (↑z:Int).toNat).l.c5,SV.int IntKind.i64 (p.f (↑z:Int).toNat).l.fr,SV.int IntKind.i64 (p.f (↑z:Int).toNat).l.to,SV.int IntKind.i64 (p.f (↑z:Int).toNat).nu,SV.int IntKind.i64 (p.f (↑z:Int).toNat).tn].getD ((0:Nat)+q) SV.any])∧∃ (g:Nat→Int),(∀ (i:Nat),i<((↑(6:Nat):Int) - (0:Int)).toNat →
[SV.int IntKind.i64 (p.f (↑z:Int).toNat).l.c0,SV.int IntKind.i64 (p.f (↑z:Int).toNat).l.c1,SV.int IntKind.i64 (p.f (↑z:Int).toNat).l.c2,SV.int IntKind.i64 (p.f (↑z:Int).toNat).l.c3,SV.int IntKind.i64 (p.f (↑z:Int).toNat).l.c4,SV.int IntKind.i64 (p.f (↑z:Int).toNat).l.c5,SV.int IntKind.i64 (p.f (↑z:Int).toNat).l.fr,SV.int IntKind.i64 (p.f (↑z:Int).toNat).l.to,SV.int IntKind.i64 (p.f (↑z:Int).toNat).nu,SV.int IntKind.i64 (p.f (↑z:Int).toNat).tn].getD ((0:Nat)+i) SV.any=i6 (g i))∧okT (Tn.mk ((↑(6:Nat):Int) - (0:Int)).toNat g)∧rI (roJ p S z+min (p.f (↑z:Int).toNat).3 (asS (Tn.mk ((↑(6:Nat):Int) - (0:Int)).toNat g) S))∧rI ((↑z:Int)+(1:Int))∧∃ (z_1:Nat),z_1≤p.1∧p.1 - z_1<p.1 - z∧S=S∧roJ p S z+min (p.f (↑z:Int).toNat).3 (asS (Tn.mk ((↑(6:Nat):Int) - (0:Int)).toNat g) S)=roJ p S z_1∧p.1=p.1∧(∀ (i :
Nat),i<p.1→rE ((p.f i).sv.den)∧True∧True∧True∧True∧True∧True∧True∧True∧True∧True∧True)∧rE (↑p.1:Int)∧(↑z:Int)+(1:Int)=(↑z_1:Int)∧True)∧(¬(↑z:Int)<(↑p.1:Int)→roJ p S z=roS p S∧True)):=by kernel_rfl
theorem frG_vc (M:Nat) (x:Fr):frG M x =
((∀ (i:Nat),i<x.p.1→True∧True∧True∧True∧True∧True∧True∧True∧True∧True∧True)∧(∀ (i:Nat),i<x.T.1→True)∧(0:Nat)<(1:Nat)∧(x.3=(↑x.T.1:Int)→(0:Nat)<(1:Nat)∧(∀ (i:Nat),i<x.T.1→True)∧∃ (g:Nat→Int),(∀ (i:Nat),i<x.T.1→i6 (x.T.f i)=i6 (g i))∧okT (Tn.mk x.T.n g)∧(0:Nat)<(1:Nat)∧(∀ (i:Nat),i<x.p.1→True∧True∧True∧True∧True∧True∧True∧True∧True∧True∧True)∧(SV.lst (10:Nat) x.p.n fun i=>(x.p.f i).sv)=(poOf x.p.n fun i=>(x.p.f i).sv).sv∧okPo (poOf x.p.n fun i=>(x.p.f i).sv)∧(asS (Tn.mk x.T.n g) x.4≤roS (poOf x.p.n fun i=>(x.p.f i).sv) x.4↔frP x.p x.T x.k.toNat x.S)∧rE x.p.1∧(∀ (i:Nat),i<x.p.1→rE ((x.p.f i).sv.den)∧True∧True∧True∧True∧True∧True∧True∧True∧True∧True∧True)∧rE x.T.1∧(∀ (i:Nat),i<x.T.1→rE ((i6 (x.T.f i)).den)∧True)∧rE
(Fn.func (64:FuncId))∧rE (0:Nat)∧rE (0:Nat)∧rE (0:Nat)∧rE (0:Nat)∧rE (0:Nat)∧rE (0:Nat)∧True)∧(¬x.3=(↑x.T.1:Int)→(0:Nat)<(1:Nat)∧rI (x.3+(1:Int))∧(SV.lst (10:Nat) x.p.n fun i=>(x.p.f i).sv)=(poOf x.p.n fun i=>(x.p.f i).sv).sv∧(SV.lst (1:Nat) x.T.n fun i=>i6 (x.T.f i))=(tnOf x.T.n fun i=>i6 (x.T.f i)).sv∧Fr.ok M (Fr.mk (poOf x.p.n fun i=>(x.p.f i).sv) (tnOf x.T.n fun i=>i6 (x.T.f i)) (x.k+(1:Int)) x.S)∧rE (x.3+(1:Int))∧x.4=x.4∧rE (0:Nat)∧rE (0:Nat)∧rE (0:Nat)∧rE (0:Nat)∧rE (0:Nat)∧rE (0:Nat)∧rE x.p.1∧(∀ (i:Nat),i<x.p.1→(x.p.f i).sv.den=((poOf x.p.n fun i=>(x.p.f i).sv).f i).sv.den)∧rE x.T.1∧(∀ (i:Nat),i<x.T.1→(i6 (x.T.f i)).den=(i6 ((tnOf x.T.n fun i=>i6 (x.T.f i)).f i)).den)∧rE (0:Nat)∧rE (0:Nat)∧rE (0:Nat)∧rE (0:Nat)∧rE (0 :
Nat)∧rE (0:Nat)∧(frP (poOf x.p.n fun i=>(x.p.f i).sv) (tnOf x.T.n fun i=>i6 (x.T.f i)) (x.k+(1:Int)).toNat x.S→(0:Nat)<(1:Nat)∧rI (x.3+(1:Int))∧((0:Int)≤x.3∧x.3≤(↑(64:Nat):Int))∧rI ((1:Int)*shP x.3)∧(SV.lst (10:Nat) x.p.n fun i=>(x.p.f i).sv)=(poOf x.p.n fun i=>(x.p.f i).sv).sv∧(SV.lst (1:Nat) x.T.n fun i=>i6 (x.T.f i))=(tnOf x.T.n fun i=>i6 (x.T.f i)).sv∧Fr.ok M (Fr.mk (poOf x.p.n fun i=>(x.p.f i).sv) (tnOf x.T.n fun i=>i6 (x.T.f i)) (x.k+(1:Int)) (bitO IntKind.i64 x.S ((1:Int)*shP x.k)))∧rE (x.3+(1:Int))∧rE (bitO IntKind.i64 x.4 ((1:Int)*shP x.3))∧rE (0:Nat)∧rE (0:Nat)∧rE (0:Nat)∧rE (0:Nat)∧rE (0:Nat)∧rE (0:Nat)∧rE x.p.1∧(∀ (i:Nat),i<x.p.1→(x.p.f i).sv.den=((poOf x.p.n fun i=>(x.p.f i).sv).f i).sv.den)∧rE x.T.1∧(∀ (i:Nat),i<x.T.1→(i6 (x.T.f
i)).den=(i6 ((tnOf x.T.n fun i=>i6 (x.T.f i)).f i)).den)∧rE (0:Nat)∧rE (0:Nat)∧rE (0:Nat)∧rE (0:Nat)∧rE (0:Nat)∧rE (0:Nat)∧(frP (poOf x.p.n fun i=>(x.p.f i).sv) (tnOf x.T.n fun i=>i6 (x.T.f i)) (x.k+(1:Int)).toNat (bitO IntKind.i64 x.S ((1:Int)*shP x.k))↔frP x.p x.T x.k.toNat x.S)∧rE x.p.1∧(∀ (i:Nat),i<x.p.1→rE ((x.p.f i).sv.den)∧True∧True∧True∧True∧True∧True∧True∧True∧True∧True∧True)∧rE x.T.1∧(∀ (i:Nat),i<x.T.1→rE ((i6 (x.T.f i)).den)∧True)∧rE (Fn.func (64:FuncId))∧rE (0:Nat)∧rE (0:Nat)∧rE (0:Nat)∧rE (0:Nat)∧rE (0:Nat)∧rE (0:Nat)∧True)∧(¬frP (poOf x.p.n fun i=>(x.p.f i).sv) (tnOf x.T.n fun i=>i6 (x.T.f i)) (x.k+(1:Int)).toNat x.S→(false=true↔frP x.p x.T x.k.toNat x.S)∧rE x.p.1∧(∀ (i:Nat),i<x.p.1→rE ((x.p.f i).sv.den)∧True∧True∧True ∧
True∧True∧True∧True∧True∧True∧True∧True)∧rE x.T.1∧(∀ (i:Nat),i<x.T.1→rE ((i6 (x.T.f i)).den)∧True)∧rE (Fn.func (64:FuncId))∧rE (0:Nat)∧rE (0:Nat)∧rE (0:Nat)∧rE (0:Nat)∧rE (0:Nat)∧rE (0:Nat)∧True))):=by kernel_rfl
theorem ftG_vc (p:Po) (T:Tn):ftG p T =
((0:Nat)<(1:Nat)∧(SV.lst (10:Nat) p.n fun i=>(p.f i).sv)=(poOf p.n fun i=>(p.f i).sv).sv∧(SV.lst (1:Nat) T.n fun i=>i6 (T.f i))=(tnOf T.n fun i=>i6 (T.f i)).sv∧Fr.ok (100:Nat) (Fr.mk (poOf p.n fun i=>(p.f i).sv) (tnOf T.n fun i=>i6 (T.f i)) (0:Int) (0:Int))∧rE (0:Int)∧rE (0:Int)∧rE (0:Nat)∧rE (0:Nat)∧rE (0:Nat)∧rE (0:Nat)∧rE (0:Nat)∧rE (0:Nat)∧p.1=p.1∧(∀ (i:Nat),i<p.1→(p.f i).sv.den=((poOf p.n fun i=>(p.f i).sv).f i).sv.den)∧T.1=T.1∧(∀ (i:Nat),i<T.1→(i6 (T.f i)).den=(i6 ((tnOf T.n fun i=>i6 (T.f i)).f i)).den)∧rE (0:Nat)∧rE (0:Nat)∧rE (0:Nat)∧rE (0:Nat)∧rE (0:Nat)∧rE (0:Nat)∧(frP (poOf p.n fun i=>(p.f i).sv) (tnOf T.n fun i=>i6 (T.f i)) (Int.toNat (0:Int)) (0:Int)↔frP p T (0:Nat) (0:Int))∧True):=by kernel_rfl
theorem auG_vc (T:Tn) (a:Int):auG T a =
((∃ (z:Nat),(z≤T.1∧auK T a z)∧a=a - tsJ T z∧T.1=T.1∧(∀ (i:Nat),i<T.1→rE ((i6 (T.f i)).den)∧True)∧rE (↑T.1:Int)∧(0:Int)=(↑z:Int)∧True)∧∀ (z:Nat),z≤T.1∧auK T a z→((↑z:Int)<(↑T.1:Int)→(0:Int)≤(↑z:Int)∧(↑z:Int)<(↑T.1:Int)∧(T.2 (↑z:Int).toNat<(0:Int)→(false=true↔auP T a)∧True)∧(¬T.2 (↑z:Int).toNat<(0:Int)→(a - tsJ T z<T.2 (↑z:Int).toNat→(false=true↔auP T a)∧True)∧(¬a - tsJ T z<T.2 (↑z:Int).toNat→rI (a - tsJ T z - T.2 (↑z:Int).toNat)∧rI ((↑z:Int)+(1:Int))∧∃ (z_1:Nat),(z_1≤T.1∧auK T a z_1)∧T.1 - z_1<T.1 - z∧a - tsJ T z - T.2 (↑z:Int).toNat=a - tsJ T z_1∧T.1=T.1∧(∀ (i:Nat),i<T.1→rE ((i6 (T.f i)).den)∧True)∧rE (↑T.1:Int)∧(↑z:Int)+(1:Int)=(↑z_1:Int)∧True)))∧(¬(↑z:Int)<(↑T.1:Int)→(a - tsJ T z=(0:Int)↔auP
T a)∧True)):=by kernel_rfl
theorem caG_vc (Y:Yd) (a:Int) (T:Tn):caG Y a T =
((0:Nat)<(1:Nat)∧(∀ (i:Nat),i<Y.c.1→True∧True∧True∧True∧True∧True∧True∧True∧True)∧(∀ (i:Nat),i<Y.m.1→True∧True∧True∧True)∧(SV.lst (8:Nat) Y.c.n fun i=>(Y.c.f i).sv)=(clOf Y.c.n fun i=>(Y.c.f i).sv).sv∧(SV.lst (3:Nat) Y.m.n fun i=>(Y.m.f i).sv)=(msOf Y.m.n fun i=>(Y.m.f i).sv).sv∧(¬drE (Yd.mk (clOf Y.c.n fun i=>(Y.c.f i).sv) (msOf Y.m.n fun i=>(Y.m.f i).sv)) a a=(0:Int)→(false=true↔caP Y a T)∧drE (Yd.mk (clOf Y.c.n fun i=>(Y.c.f i).sv) (msOf Y.m.n fun i=>(Y.m.f i).sv)) a a=caE Y a T∧True)∧(¬¬drE (Yd.mk (clOf Y.c.n fun i=>(Y.c.f i).sv) (msOf Y.m.n fun i=>(Y.m.f i).sv)) a a=(0:Int)→(0:Nat)<(1:Nat)∧(¬(↑T.1:Int)=(↑Y.c.1:Int)→(false=true↔caP Y a T)∧(2:Int)=caE Y a T∧True)∧(¬¬(↑T.1:Int)=(↑Y.c.1:Int)→(0:Nat)<(1:Nat)∧(0:Nat)<(1:Nat)∧rI ((drS
(Yd.mk (clOf Y.c.n fun i=>(Y.c.f i).sv) (msOf Y.m.n fun i=>(Y.m.f i).sv)) a a).2 - (drS (Yd.mk (clOf Y.c.n fun i=>(Y.c.f i).sv) (msOf Y.m.n fun i=>(Y.m.f i).sv)) a a).1)∧(∀ (i:Nat),i<T.1→True)∧(SV.lst (1:Nat) T.n fun i=>i6 (T.f i))=(tnOf T.n fun i=>i6 (T.f i)).sv∧(T.1≤(6:Nat)∧(0:Int)≤(drS (Yd.mk (clOf Y.c.n fun i=>(Y.c.f i).sv) (msOf Y.m.n fun i=>(Y.m.f i).sv)) a a).2 - (drS (Yd.mk (clOf Y.c.n fun i=>(Y.c.f i).sv) (msOf Y.m.n fun i=>(Y.m.f i).sv)) a a).1∧(drS (Yd.mk (clOf Y.c.n fun i=>(Y.c.f i).sv) (msOf Y.m.n fun i=>(Y.m.f i).sv)) a a).2 - (drS (Yd.mk (clOf Y.c.n fun i=>(Y.c.f i).sv) (msOf Y.m.n fun i=>(Y.m.f i).sv)) a a).1≤(1000000000:Int))∧(auP (tnOf T.n fun i=>i6 (T.f i)) ((drS (Yd.mk (clOf Y.c.n fun i=>(Y.c.f i).sv) (msOf Y.m.n fun i=>(Y.m.f i).sv)) a a).hi - (drS (Yd.mk (clOf Y.c.n fun i=>(Y.c.f i).sv) (msOf
Y.m.n fun i=>(Y.m.f i).sv)) a a).lo)→(0:Nat)<(1:Nat)∧(0:Nat)<(1:Nat)∧(∀ (i:Nat),i<Y.m.1→True∧True∧True∧True)∧(SV.lst (3:Nat) Y.m.n fun i=>(Y.m.f i).sv)=(msOf Y.m.n fun i=>(Y.m.f i).sv).sv∧lyP (msOf Y.m.n fun i=>(Y.m.f i).sv)∧((-1000000000:Int)≤(drS (Yd.mk (clOf Y.c.n fun i=>(Y.c.f i).sv) (msOf Y.m.n fun i=>(Y.m.f i).sv)) a a).1∧(drS (Yd.mk (clOf Y.c.n fun i=>(Y.c.f i).sv) (msOf Y.m.n fun i=>(Y.m.f i).sv)) a a).1≤(1000000000:Int)∧(-1000000000:Int)≤(drS (Yd.mk (clOf Y.c.n fun i=>(Y.c.f i).sv) (msOf Y.m.n fun i=>(Y.m.f i).sv)) a a).2∧(drS (Yd.mk (clOf Y.c.n fun i=>(Y.c.f i).sv) (msOf Y.m.n fun i=>(Y.m.f i).sv)) a a).2≤(1000000000:Int))∧(∀ (i:Nat),i<(poM (msOf Y.m.n fun i=>(Y.m.f i).sv) (Tw.mk (drS (Yd.mk (clOf Y.c.n fun i=>(Y.c.f i).sv) (msOf Y.m.n fun i=>(Y.m.f i).sv)) a a).lo (drS (Yd.mk
(clOf Y.c.n fun i=>(Y.c.f i).sv) (msOf Y.m.n fun i=>(Y.m.f i).sv)) a a).hi) (lyL (msOf Y.m.n fun i=>(Y.m.f i).sv) Y.m.n).length).length→True∧True∧True∧True∧True∧True∧True∧True∧True∧True∧True)∧(∀ (i:Nat),i<T.1→True)∧(SV.lst (10:Nat) (poM (msOf Y.m.n fun i=>(Y.m.f i).sv) (Tw.mk (drS (Yd.mk (clOf Y.c.n fun i=>(Y.c.f i).sv) (msOf Y.m.n fun i=>(Y.m.f i).sv)) a a).lo (drS (Yd.mk (clOf Y.c.n fun i=>(Y.c.f i).sv) (msOf Y.m.n fun i=>(Y.m.f i).sv)) a a).hi) (lyL (msOf Y.m.n fun i=>(Y.m.f i).sv) Y.m.n).length).length fun i=>((poM (msOf Y.m.n fun i=>(Y.m.f i).sv) (Tw.mk (drS (Yd.mk (clOf Y.c.n fun i=>(Y.c.f i).sv) (msOf Y.m.n fun i=>(Y.m.f i).sv)) a a).lo (drS (Yd.mk (clOf Y.c.n fun i=>(Y.c.f i).sv) (msOf Y.m.n fun i=>(Y.m.f i).sv)) a a).hi) (lyL (msOf Y.m.n fun i=>(Y.m.f i).sv) Y.m.n).length).getD i zP).sv)=(poOf (poM (msOf Y.m.n
fun i=>(Y.m.f i).sv) (Tw.mk (drS (Yd.mk (clOf Y.c.n fun i=>(Y.c.f i).sv) (msOf Y.m.n fun i=>(Y.m.f i).sv)) a a).lo (drS (Yd.mk (clOf Y.c.n fun i=>(Y.c.f i).sv) (msOf Y.m.n fun i=>(Y.m.f i).sv)) a a).hi) (lyL (msOf Y.m.n fun i=>(Y.m.f i).sv) Y.m.n).length).length fun i=>((poM (msOf Y.m.n fun i=>(Y.m.f i).sv) (Tw.mk (drS (Yd.mk (clOf Y.c.n fun i=>(Y.c.f i).sv) (msOf Y.m.n fun i=>(Y.m.f i).sv)) a a).lo (drS (Yd.mk (clOf Y.c.n fun i=>(Y.c.f i).sv) (msOf Y.m.n fun i=>(Y.m.f i).sv)) a a).hi) (lyL (msOf Y.m.n fun i=>(Y.m.f i).sv) Y.m.n).length).getD i zP).sv).sv∧(SV.lst (1:Nat) T.n fun i=>i6 (T.f i))=(tnOf T.n fun i=>i6 (T.f i)).sv∧(okPo (poOf (poM (msOf Y.m.n fun i=>(Y.m.f i).sv) (Tw.mk (drS (Yd.mk (clOf Y.c.n fun i=>(Y.c.f i).sv) (msOf Y.m.n fun i=>(Y.m.f i).sv)) a a).lo (drS (Yd.mk (clOf Y.c.n fun i=>(Y.c.f i).sv) (msOf Y.m.n fun i=>(Y.m.f
i).sv)) a a).hi) (lyL (msOf Y.m.n fun i=>(Y.m.f i).sv) Y.m.n).length).length fun i=>((poM (msOf Y.m.n fun i=>(Y.m.f i).sv) (Tw.mk (drS (Yd.mk (clOf Y.c.n fun i=>(Y.c.f i).sv) (msOf Y.m.n fun i=>(Y.m.f i).sv)) a a).lo (drS (Yd.mk (clOf Y.c.n fun i=>(Y.c.f i).sv) (msOf Y.m.n fun i=>(Y.m.f i).sv)) a a).hi) (lyL (msOf Y.m.n fun i=>(Y.m.f i).sv) Y.m.n).length).getD i zP).sv)∧okT (tnOf T.n fun i=>i6 (T.f i)))∧(frP (poOf (poM (msOf Y.m.n fun i=>(Y.m.f i).sv) (Tw.mk (drS (Yd.mk (clOf Y.c.n fun i=>(Y.c.f i).sv) (msOf Y.m.n fun i=>(Y.m.f i).sv)) a a).lo (drS (Yd.mk (clOf Y.c.n fun i=>(Y.c.f i).sv) (msOf Y.m.n fun i=>(Y.m.f i).sv)) a a).hi) (lyL (msOf Y.m.n fun i=>(Y.m.f i).sv) Y.m.n).length).length fun i=>((poM (msOf Y.m.n fun i=>(Y.m.f i).sv) (Tw.mk (drS (Yd.mk (clOf Y.c.n fun i=>(Y.c.f i).sv) (msOf Y.m.n fun i=>(Y.m.f i).sv)) a a).lo (drS (Yd.mk (clOf
Y.c.n fun i=>(Y.c.f i).sv) (msOf Y.m.n fun i=>(Y.m.f i).sv)) a a).hi) (lyL (msOf Y.m.n fun i=>(Y.m.f i).sv) Y.m.n).length).getD i zP).sv) (tnOf T.n fun i=>i6 (T.f i)) (0:Nat) (0:Int)↔caP Y a T)∧(0:Int)=caE Y a T∧True)∧(¬auP (tnOf T.n fun i=>i6 (T.f i)) ((drS (Yd.mk (clOf Y.c.n fun i=>(Y.c.f i).sv) (msOf Y.m.n fun i=>(Y.m.f i).sv)) a a).hi - (drS (Yd.mk (clOf Y.c.n fun i=>(Y.c.f i).sv) (msOf Y.m.n fun i=>(Y.m.f i).sv)) a a).lo)→(false=true↔caP Y a T)∧(0:Int)=caE Y a T∧True)))):=by kernel_rfl
end Go.Proofs.Ytmohedjgoakdjaa

set_option maxRecDepth 100000
namespace Go.Proofs.Ytmohedjgoakdjaa
open Go Go.Lg
attribute [local irreducible] funS bodyH
theorem po_fold (p:Po):(poOf p.n fun i=>(p.f i).sv)=p:=rfl
theorem tn_fold (T:Tn):(tnOf T.n fun i=>i6 (T.f i))=T:=rfl
theorem sj_bd {g:Nat→Int} {B:Int}:∀ {m:Nat},(∀ j,j<m→0≤g j∧g j≤B)→0≤sumJ g m∧sumJ g m≤m*B
 | 0,_=>by simp [sumJ]
 | m+1,h=>by
  have h1:=sj_bd (g:=g) (B:=B) (m:=m) fun j hj=>h j (by omega)
  have h2:=h m (by omega)
  have:((m+1:Nat):Int)*B=m*B+B:=by push_cast; rw [Int.add_mul,Int.one_mul]
  rw [this]
  show 0≤sumJ g m+g m∧sumJ g m+g m≤_
  omega
theorem as_bd {T:Tn} (h:okT T) (S:Int) {k:Nat} (hk:k≤T.n):0≤asJ T S k∧asJ T S k≤6000000000:=by
 have:=sj_bd (g:=akI T S) (B:=1000000000) (m:=k) fun j hj=>by
  have:=h.h j (by omega)
  unfold akI
  split <;> omega
 have hn:=h.n
 unfold asJ
 omega
theorem as_true {T:Tn} {S:Int} (h:okT T):asG T S:=by
 rw [asG_vc]
 simp only [rI,rE,and_true,true_and,Nat.zero_lt_one,and_self,implies_true,Int.toNat_natCast]
 have hn:=h.n
 refine ⟨⟨0,by omega,rfl,rfl⟩,fun z hz=>⟨fun hl=>⟨by omega,hl,by omega,fun hb=>?_,fun hb=>?_⟩,fun hl=>?_⟩⟩
 ·have b1:=as_bd h S (k:=z) hz
  have b2:=h.h z (by omega)
  refine ⟨by omega,by omega,z+1,by omega,by omega,?_,by omega⟩
  show _=asJ T S z+akI T S z
  rw [akI,if_pos (show biP S z from hb)]
 ·refine ⟨by omega,z+1,by omega,by omega,?_,by omega⟩
  show _=asJ T S z+akI T S z
  rw [akI,if_neg (show ¬ biP S z from hb)]; omega
 ·have:z=T.n:=by omega
  subst this; rfl
theorem as_ok:asC.Ok Try.prog:=by
 refine ⟨by kernel_rfl,fun x k hk=>?_⟩
 simp only [asC] at hk
 split at hk
 ·rename_i n f S
  obtain ⟨g,hf,hn,hk⟩:=hk
  refine ⟨_,?_,hk⟩
  have:=plainD nilS_cs nilS_x nilS_ic (as_true (T:=⟨n,g⟩) (S:=S) hn) trivial
  simp only [Tn.sv,SV.denL] at this ⊢
  rw [lst_den hf]; exact this
 ·exact hk.elim
theorem la_ok {p:Pn} (h:okP p):okT (lyT p.l):=⟨Nat.le_refl _,fun i hi=>by
 have b:=cell_bd h.l (i:=i) hi
 show 0≤cellZ p.l.sv.cells i∧cellZ p.l.sv.cells i≤_
 omega⟩
theorem ro_bd {p:Po} (h:okPo p) (S:Int) {k:Nat} (hk:k≤p.n):0≤roJ p S k∧roJ p S k≤1073741824:=by
 have:=sj_bd (g:=fun i=>min (p.f i).tn (asS (lyT (p.f i).l) S)) (B:=33554432) (m:=k) fun j hj=>by
  have o:=h.h j (by omega)
  have t:=o.t
  have a:=as_bd (la_ok o) S (k:=6) (Nat.le_refl _)
  have e:asJ (lyT (p.f j).l) S 6=asS (lyT (p.f j).l) S:=rfl
  omega
 have hn:=h.n
 unfold roJ
 omega
theorem ro_true {p:Po} {S:Int} (h:okPo p):roG p S:=by
 rw [roG_vc]
 have e6:((↑(6:Nat):Int) - 0).toNat=6:=rfl
 simp only [rI,rE,and_true,true_and,Nat.zero_lt_one,and_self,implies_true,Int.toNat_natCast,e6,Nat.zero_add]
 have hn:=h.n
 refine ⟨⟨0,by omega,rfl,rfl⟩,fun z hz=>⟨fun hl=>⟨by omega,hl,by omega,by omega,by omega,by omega,fun q hq=>?_,(lyT (p.f z).l).f,fun q hq=>?_,la_ok (h.h z (by omega)),?_,by omega,z+1,by omega,by omega,rfl,by omega⟩,fun hl=>?_⟩⟩
 ·have:q=0∨q=1∨q=2∨q=3∨q=4∨q=5:=by omega
  rcases this with e | e | e | e | e | e <;> subst e <;> rfl
 ·have:q=0∨q=1∨q=2∨q=3∨q=4∨q=5:=by omega
  rcases this with e | e | e | e | e | e <;> subst e <;> rfl
 ·have b:=ro_bd h S (k:=z+1) (by omega)
  have b0:=ro_bd h S (k:=z) (by omega)
  have e:roJ p S (z+1)=roJ p S z+min (p.f z).tn (asS (lyT (p.f z).l) S):=rfl
  rw [e] at b
  have e2:Tn.mk 6 (lyT (p.f z).l).f=lyT (p.f z).l:=rfl
  rw [e2]
  omega
 ·have:z=p.n:=by omega
  subst this; rfl
theorem ro_ok:roC.Ok Try.prog:=by
 refine ⟨by kernel_rfl,fun x k hk=>?_⟩
 simp only [roC] at hk
 split at hk
 ·rename_i n f S
  obtain ⟨h1,h2,hk⟩:=hk
  have hh:=ro_true (S:=S) h2
  unfold roG at hh
  rw [← h1] at hh
  exact ⟨_,plainD (one_cs as_ok) nilS_x nilS_ic hh trivial,hk⟩
 ·exact hk.elim
theorem wrapN {n:Nat} (h:n<2 ^ 63):IntKind.wrap .i64 (n:Int)=n:=by
 unfold IntKind.wrap
 have e:IntKind.bits .i64=64:=rfl
 simp only [e]
 have:((n:Int) % 2 ^ 64)=n:=by omega
 rw [this]
 have e2:IntKind.signed .i64=true:=rfl
 simp only [e2,Bool.true_and,decide_eq_true_eq]
 split <;> omega
theorem ofI {s:Int} (h0:0≤s) (h:s<2 ^ 63):(BitVec.ofInt 64 s).toNat=s.toNat:=by
 rw [BitVec.toNat_ofInt]
 omega
theorem bi_tb {n s:Int} (h0:0≤s) (h:s<2 ^ 63):biP s n↔s.toNat.testBit n.toNat=true:=by
 unfold biP bitA shP
 have e:IntKind.bits .i64=64:=rfl
 rw [e]
 have hp:(2:Int) ^ n.toNat=((2 ^ n.toNat:Nat):Int):=by simp
 have h1:s.fdiv (2 ^ n.toNat)=((s.toNat / 2 ^ n.toNat:Nat):Int):=by
  rw [Int.fdiv_eq_ediv_of_nonneg _ (by rw [hp]; exact Int.natCast_nonneg _),hp,Int.natCast_ediv,Int.toNat_of_nonneg h0]
 have hq:s.toNat / 2 ^ n.toNat≤s.toNat:=Nat.div_le_self _ _
 have h2:(BitVec.ofInt 64 (s.fdiv (2 ^ n.toNat))).toNat=s.toNat / 2 ^ n.toNat:=by
  rw [h1,ofI (Int.natCast_nonneg _) (by omega),Int.toNat_natCast]
 have h3:(BitVec.ofInt 64 1).toNat=1:=by decide
 rw [BitVec.toNat_and,h2,h3,Nat.and_one_is_mod,wrapN (n:=s.toNat / 2 ^ n.toNat % 2) (by omega),Nat.testBit_eq_decide_div_mod_eq]
 simp only [decide_eq_true_eq]
 omega
theorem or_pw {x:Int} {m:Nat} (hm:m≤12) (h0:0≤x) (h:x<2 ^ m):bitO .i64 x (shP (m:Int))=x+2 ^ m:=by
 have hp:(2:Int) ^ m=((2 ^ m:Nat):Int):=by simp
 have hle:2 ^ m≤2 ^ 12:=Nat.pow_le_pow_right (by omega) hm
 rw [hp] at h ⊢
 have e2:(BitVec.ofInt 64 (shP (m:Int))).toNat=2 ^ m:=by
  have:shP (m:Int)=((2 ^ m:Nat):Int):=by unfold shP; rw [Int.toNat_natCast,hp]
  rw [this,ofI (Int.natCast_nonneg _) (by omega),Int.toNat_natCast]
 unfold bitO
 have e:IntKind.bits .i64=64:=rfl
 rw [e,BitVec.toNat_or,e2,ofI h0 (by omega)]
 have hlt:x.toNat<2 ^ m:=by omega
 have:=Nat.two_pow_add_eq_or_of_lt hlt 1
 rw [Nat.mul_one,Nat.or_comm] at this
 rw [← this,wrapN (n:=2 ^ m+x.toNat) (by omega)]
 omega
theorem fr_true {M:Nat} {x:Fr} (h:x.ok (M+1)):frG M x:=by
 obtain ⟨p,T,k,S⟩:=x
 obtain ⟨hp,hT,hk,hm,hS⟩:=h
 rw [frG_vc]
 simp only [rI,rE,and_true,true_and,Nat.zero_lt_one,and_self,implies_true,po_fold,tn_fold,Int.one_mul,Bool.false_eq_true,false_iff]
 dsimp only at hp hT hk hm hS ⊢
 have hn:=hT.n
 obtain ⟨k,rfl⟩:∃ m:Nat,k=m:=⟨k.toNat,by omega⟩
 rw [Int.toNat_natCast] at hm hS
 have hp2:(2:Int) ^ k=((2 ^ k:Nat):Int):=by simp
 have hle:2 ^ k≤2 ^ 12:=Nat.pow_le_pow_right (by omega) (by omega)
 refine ⟨fun e=>?_,fun e=>?_⟩
 ·refine ⟨T.f,fun i hi=>rfl,hT,rfl,hp,?_⟩
  have:k=T.n:=by omega
  subst this
  show _↔frR p T (T.n - (T.n:Int).toNat) (T.n:Int).toNat S
  rw [Int.toNat_natCast,Nat.sub_self]
  exact Iff.rfl
 ·have e1:((k:Int)+1).toNat=k+1:=by omega
  have e2:((k:Int)).toNat=k:=by omega
  have er:T.n - k=(T.n - (k+1))+1:=by omega
  have pe:(2:Int) ^ (k+1)=2 ^ k*2:=Int.pow_succ 2 k
  have sh:shP (k:Int)=2 ^ k:=by unfold shP; rw [Int.toNat_natCast]
  have ob:=or_pw (x:=S) (m:=k) (by omega) hS.1 hS.2
  have fe:frP p T k S↔frR p T (T.n - (k+1)) (k+1) S∧frR p T (T.n - (k+1)) (k+1) (bitO .i64 S (shP k)):=by
   unfold frP; rw [er]; exact Iff.rfl
  rw [e1,e2]
  refine ⟨by omega,rfl,rfl,⟨hp,hT,?_,?_,?_⟩,fun h1=>⟨by omega,by omega,?_,rfl,rfl,⟨hp,hT,?_,?_,?_⟩,?_⟩,fun h1 h2=>h1 (fe.1 h2).1⟩
  ·dsimp only; omega
  ·dsimp only; omega
  ·dsimp only; rw [e1,pe]; omega
  ·rw [sh]; omega
  ·dsimp only; omega
  ·dsimp only; omega
  ·dsimp only; rw [e1,pe,ob]; omega
  ·exact ⟨fun h2=>fe.2 ⟨h1,h2⟩,fun h2=>(fe.1 h2).2⟩
theorem csF0_sound:SoundS Try.prog (ctrs [asC,roC]):=ctrs_sound (by
 intro x hx
 simp at hx
 rcases hx with rfl | rfl
 ·exact as_ok
 ·exact ro_ok)
theorem fr_ok:∀ M,(frC M).Ok Try.prog
 | 0=>⟨by kernel_rfl,fun p hp=>by have:=hp.m; omega⟩
 | M+1=>⟨by kernel_rfl,fun p hp=>by
  have hcs:SoundS Try.prog (csF M):=ctrsQ_sound csF0_sound (by
   intro x hx
   simp only [List.mem_cons,List.not_mem_nil,or_false] at hx
   subst hx
   exact fr_ok M)
  have key:=fr_true hp
  unfold frG at key
  exact stH_ok hcs nilS_x nilS_ic mixed key⟩
theorem csF_sound (M:Nat):SoundS Try.prog (csF M):=ctrsQ_sound csF0_sound (by
 intro x hx
 simp only [List.mem_cons,List.not_mem_nil,or_false] at hx
 subst hx
 exact fr_ok M)
theorem ft_true {p:Po} {T:Tn} (hp:okPo p) (hT:okT T):ftG p T:=by
 rw [ftG_vc]
 simp only [rI,rE,and_true,true_and,Nat.zero_lt_one,and_self,implies_true,po_fold,tn_fold]
 have hn:=hT.n
 exact ⟨rfl,rfl,⟨hp,hT,⟨by dsimp only; omega,by dsimp only; omega⟩,by dsimp only; omega,⟨by dsimp only; omega,by dsimp only; decide⟩⟩,Iff.rfl⟩
theorem ft_ok:ftC.Ok Try.prog:=by
 refine ⟨by kernel_rfl,fun x k hk=>?_⟩
 simp only [ftC] at hk
 split at hk
 ·rename_i n f m g
  obtain ⟨h1,h2,⟨h3,h4⟩,hk⟩:=hk
  have hh:=ft_true h3 h4
  unfold ftG at hh
  rw [← h1,← h2] at hh
  exact ⟨_,plainD (csF_sound 100) nilS_x nilS_ic hh trivial,hk⟩
 ·exact hk.elim
theorem ts_s (T:Tn) (k:Nat):tsJ T (k+1)=tsJ T k+T.f k:=rfl
theorem au_true {T:Tn} {a:Int} (hn:T.n≤6) (h0:0≤a) (h1:a≤1000000000):auG T a:=by
 rw [auG_vc]
 simp only [rI,rE,and_true,true_and,Nat.zero_lt_one,and_self,implies_true,Int.toNat_natCast,Bool.false_eq_true,false_iff]
 have pos:∀ z,auK T a z→0≤tsJ T z∧tsJ T z≤a:=by
  intro z
  induction z with
  | zero=>intro _; simp [tsJ,sumJ]; omega
  | succ z ih =>
   intro h
   have i:=ih ⟨fun i hi=>h.h i (by omega)⟩
   have q:=h.h z (by omega)
   rw [ts_s]; omega
 refine ⟨⟨0,⟨by omega,⟨fun i hi=>by omega⟩⟩,by simp [tsJ,sumJ],rfl⟩,fun z hz=>⟨fun hl=>⟨by omega,hl,fun hb h=>?_,fun hb=>⟨fun hc h=>?_,fun hc=>?_⟩⟩,fun hl=>?_⟩⟩
 ·have:=h.h.h z (by omega); omega
 ·have:=h.h.h z (by omega); omega
 ·have p:=pos z hz.2
  refine ⟨by omega,by omega,z+1,⟨by omega,⟨fun i hi=>?_⟩⟩,by omega,by rw [ts_s]; omega,by omega⟩
  by_cases e:i=z
  ·subst e; omega
  ·exact hz.2.h i (by omega)
 ·have:z=T.n:=by omega
  subst this
  exact ⟨fun h=>⟨hz.2,by omega⟩,fun h=>by have:=h.e; omega⟩
theorem au_ok:auC.Ok Try.prog:=by
 refine ⟨by kernel_rfl,fun x k hk=>?_⟩
 simp only [auC] at hk
 split at hk
 ·rename_i n f a
  obtain ⟨h1,⟨h2,h3,h4⟩,hk⟩:=hk
  have hh:=au_true (T:=tnOf n f) h2 h3 h4
  unfold auG at hh
  rw [← h1] at hh
  exact ⟨_,plainD nilS_cs nilS_x nilS_ic hh trivial,hk⟩
 ·exact hk.elim
end Go.Proofs.Ytmohedjgoakdjaa

set_option maxRecDepth 100000
namespace Go.Proofs.Ytmohedjgoakdjaa
open Go Go.Lg
attribute [local irreducible] funS bodyH
theorem ca_e {Y:Yd} {a:Int} {T:Tn} (h:¬ drE Y a a=0):caE Y a T=drE Y a a:=if_neg h
theorem ca_2 {Y:Yd} {a:Int} {T:Tn} (h:drE Y a a=0) (hn:¬ T.n=Y.c.n):caE Y a T=2:=by rw [caE,if_pos h,if_neg hn]
theorem ca_0 {Y:Yd} {a:Int} {T:Tn} (h:drE Y a a=0) (hn:T.n=Y.c.n):caE Y a T=0:=by rw [caE,if_pos h,if_pos hn]
theorem ds_mono {M:Ms} {c:Int} (h:okMs c M) {a:Int}:∀ {k:Nat},k≤M.n→ds M a k≤ds M (a+1) k
 | 0,_=>Int.le_refl _
 | k+1,hk=>by
  have ih:=ds_mono h (a:=a) (k:=k) (by omega)
  have t:=(h.h k (by omega)).t0
  rw [ds_s,ds_s]
  have:dsI M a k≤dsI M (a+1) k:=by
   unfold dsI
   split
   ·split <;> split <;> omega
   ·omega
  omega
theorem dw_ds {Y:Yd} {a:Int} (h:drE Y a a=0):0≤(drS Y a a).hi - (drS Y a a).lo∧(drS Y a a).hi - (drS Y a a).lo≤67108864:=by
 obtain ⟨h1,h2,h3⟩:=ck_0 (drE_ck h)
 have m:=ds_mono h2 (a:=a) (k:=Y.m.n) (Nat.le_refl _)
 have b1:=ds_bd h2 (a:=a) (k:=Y.m.n) (Nat.le_refl _)
 have b2:=ds_bd h2 (a:=a+1) (k:=Y.m.n) (Nat.le_refl _)
 rw [drS_y h]
 dsimp only
 omega
theorem au_okT {T:Tn} {a:Int} (hn:T.n≤6) (h1:a≤67108864) (h:auP T a):okT T:=⟨hn,fun i hi=>by
 have pos:∀ z,z≤T.n→0≤tsJ T z:=by
  intro z
  induction z with
  | zero=>intro _; simp [tsJ,sumJ]
  | succ z ih =>
   intro hz
   have i:=ih (by omega)
   have q:=h.h.h z (by omega)
   rw [ts_s]; omega
 have:=h.h.h i hi
 have:=pos i (by omega)
 omega⟩
theorem dp_ok (Y:Yd) (a:Int):okPo (dwP Y a):=⟨dw_len Y a,fun i hi=>(dw_okP (getD_mem (l:=dwL Y a) (d:=zP) hi)).1⟩
theorem ca_true (Y:Yd) (a:Int) (T:Tn):caG Y a T:=by
 rw [caG_vc]
 have e0:Yd.mk Y.c Y.m=Y:=rfl
 have e1:∀ t:Tw,Tw.mk t.lo t.hi=t:=fun t=>rfl
 simp only [rI,rE,and_true,true_and,Nat.zero_lt_one,and_self,implies_true,Classical.not_not,Bool.false_eq_true,false_iff,ms_fold,cl_fold,mv_fold,cv_fold,tn_fold,e0,e1]
 refine ⟨fun h=>⟨fun c=>?_,(ca_e h).symm⟩,fun h=>⟨fun hn=>⟨fun c=>?_,?_⟩,fun hn=>?_⟩⟩
 ·have:=c.e; rw [ca_e h] at this; exact h this
 ·have:=c.e; rw [ca_2 h (by omega)] at this; omega
 ·rw [ca_2 h (by omega)]
 ·have hn:T.n=Y.c.n:=by omega
  have hl:=ck_ly (drE_ck h)
  obtain ⟨hC,hM,hS⟩:=ck_0 (drE_ck h)
  have hcn:=hC.b
  have hb:=dw_ds h
  have ed:poM Y.m (drS Y a a) (lyL Y.m Y.m.n).length=dwL Y a:=(dw_yes h).symm
  have e2:(poOf (dwL Y a).length fun i=>((dwL Y a).getD i zP).sv)=dwP Y a:=rfl
  rw [ca_0 h hn]
  simp only [ed,e2,and_true]
  refine ⟨by omega,rfl,⟨by omega,by omega,by omega⟩,fun hu=>⟨hl,drS_bd Y a a,rfl,rfl,⟨dp_ok Y a,au_okT (by omega) hb.2 hu⟩,⟨fun hf=>⟨ca_0 h hn,hu,hf⟩,fun c=>c.f⟩⟩,fun hu=>fun c=>hu c.u⟩
theorem csC_sound:SoundS Try.prog (ctrs [drC,poC,auC,ftC]):=ctrs_sound (by
 intro x hx
 simp at hx
 rcases hx with rfl | rfl | rfl | rfl
 ·exact dr_ok
 ·exact po_ok
 ·exact au_ok
 ·exact ft_ok)
theorem ca_ok:caC.Ok Try.prog:=by
 refine ⟨by kernel_rfl,fun x k hk=>?_⟩
 simp only [caC] at hk
 split at hk
 ·rename_i n f m g a x y
  obtain ⟨h1,h2,z,hf,hk⟩:=hk
  refine ⟨_,?_,hk⟩
  have hh:=ca_true ⟨clOf n f,msOf m g⟩ a ⟨x,z⟩
  unfold caG at hh
  simp only [Yd.sv] at hh
  rw [← h1,← h2] at hh
  have hh:funH Try.prog (ctrs [drC,poC,auC,ftC]) noX (ictrs []) noL noL 21 [.agg [.lst 8 n f,.lst 3 m g],i6 a,(Tn.mk x z).sv] _:=hh
  have:=plainD csC_sound nilS_x nilS_ic hh (by simp [plainS,plainS.plainL])
  simp only [Tn.sv,SV.denL] at this ⊢
  rw [lst_den hf]; exact this
 ·exact hk.elim
def stI (M:Ms) (i:Nat):Prop:=(M.f i).co≠-1∧(i=0∨(M.f (i - 1)).co=-1∨(M.f (i - 1)).hr≠(M.f i).hr)
open Classical in
noncomputable def snF (M:Ms) (k:Nat):Int:=sumJ (fun i=>if stI M i then 1 else 0) k - 1
noncomputable def lrG (Y:Yd) (b:Int):Prop:=funH Try.prog (ctrs []) noX (ictrs [])
 (oneL 0 (natH (fun k=>k≤(b+1).toNat) (fun k=>Y.m.n - k) 1 (fun k=>mkF 48 [(1,i6 b),(2,.ptr 0 0 0),(5,i6 (snF Y.m k)),(6,i6 k)]) (fun _=>mkX [vr 2 Y.sv]) fun _=>none)) noL 50 [Y.sv,i6 b] (i6 (snF Y.m (b+1).toNat))
noncomputable def lrC:Ctr:=⟨50,fun args k=>match args with
 | [.agg [.lst 8 n f,.lst 3 m g],.int .i64 b]=>SV.lst 8 n f=(clOf n f).sv∧SV.lst 3 m g=(msOf m g).sv∧(0≤b∧b<m∧m≤1000)∧k (i6 (snF (msOf m g) (b+1).toNat))
 | _=>False⟩
open Classical in
noncomputable def coI (M:Ms) (o:Int) (i j:Nat):Int:=if (M.f j).co=i∧snF M (j+1)=o then (M.f j).tn else 0
noncomputable def ctF (M:Ms) (o:Int) (k i:Nat):Int:=sumJ (coI M o i) k
noncomputable def cnG (Y:Yd) (o:Int):Prop:=funN Try.prog (ctrs [lrC]) noX (ictrs [])
 (oneL 0 (natH (fun k=>k≤Y.m.n) (fun k=>Y.m.n - k) 2 (fun k=>mkF 47 [(1,i6 o),(2,i6 Y.m.n),(3,.ptr 0 0 0),(7,.sl 1 0 Y.c.n),(8,i6 k)]) (fun k=>mkX [vr 2 Y.sv,rw' 1 Y.c.n fun i=>i6 (ctF Y.m o k i)]) fun _=>none)) noL 28 [Y.sv,i6 o,i6 Y.m.n] (.lst 1 Y.c.n fun i=>i6 (ctF Y.m o Y.m.n i))
noncomputable def cnC:Ctr:=⟨28,fun args k=>match args with
 | [.agg [.lst 8 n f,.lst 3 m g],.int .i64 o,.int .i64 b]=>SV.lst 8 n f=(clOf n f).sv∧SV.lst 3 m g=(msOf m g).sv∧(b=m∧ckY ⟨clOf n f,msOf m g⟩=0)∧k (.lst 1 n fun i=>i6 (ctF (msOf m g) o m i))
 | _=>False⟩
end Go.Proofs.Ytmohedjgoakdjaa

set_option maxRecDepth 100000
namespace Go.Proofs.Ytmohedjgoakdjaa
open Go Go.Lg
theorem lrG_vc (Y:Yd) (b:Int):lrG Y b =
((∃ (z:Nat),z≤(b+(1:Int)).toNat∧b=b∧rE (0:Nat)∧rE (0:Nat)∧(-1:Int)=snF Y.m z∧(0:Int)=(↑z:Int)∧rE Y.c.1∧(∀ (i:Nat),i<Y.c.1→rE ((Y.c.f i).sv.den)∧True∧True∧True∧True∧True∧True∧True∧True∧True)∧rE Y.m.1∧(∀ (i:Nat),i<Y.m.1→rE ((Y.m.f i).sv.den)∧True∧True∧True∧True)∧True)∧∀ (z:Nat),z≤(b+(1:Int)).toNat→((↑z:Int)≤b→(0:Nat)<(1:Nat)∧(0:Int)≤(↑z:Int)∧(↑z:Int)<(↑Y.m.1:Int)∧(0:Nat)<(1:Nat)∧((Y.m.f (↑z:Int).toNat).2=(-1:Int)→rI ((↑z:Int)+(1:Int))∧∃ (z_1:Nat),z_1≤(b+(1:Int)).toNat∧Y.m.1 - z_1<Y.m.1 - z∧b=b∧rE (0:Nat)∧rE (0:Nat)∧snF Y.m z=snF Y.m z_1∧(↑z:Int)+(1:Int)=(↑z_1:Int)∧rE Y.c.1∧(∀ (i:Nat),i<Y.c.1→rE ((Y.c.f i).sv.den)∧True∧True∧True∧True∧True∧True∧True∧True∧True)∧rE Y.m.1 ∧
(∀ (i:Nat),i<Y.m.1→rE ((Y.m.f i).sv.den)∧True∧True∧True∧True)∧True)∧(¬(Y.m.f (↑z:Int).toNat).2=(-1:Int)→((↑z:Int)=(0:Int)→rI (snF Y.m z+(1:Int))∧rI ((↑z:Int)+(1:Int))∧∃ (z_1:Nat),z_1≤(b+(1:Int)).toNat∧Y.m.1 - z_1<Y.m.1 - z∧b=b∧rE (0:Nat)∧rE (0:Nat)∧snF Y.m z+(1:Int)=snF Y.m z_1∧(↑z:Int)+(1:Int)=(↑z_1:Int)∧rE Y.c.1∧(∀ (i:Nat),i<Y.c.1→rE ((Y.c.f i).sv.den)∧True∧True∧True∧True∧True∧True∧True∧True∧True)∧rE Y.m.1∧(∀ (i:Nat),i<Y.m.1→rE ((Y.m.f i).sv.den)∧True∧True∧True∧True)∧True)∧(¬(↑z:Int)=(0:Int)→(0:Nat)<(1:Nat)∧rI ((↑z:Int) - (1:Int))∧(0:Int)≤(↑z:Int) - (1:Int)∧(↑z:Int) - (1:Int)<(↑Y.m.1:Int)∧((Y.m.f ((↑z:Int) - (1:Int)).toNat).2=(-1:Int)→rI (snF Y.m z+(1:Int))∧rI ((↑z:Int)+(1:Int))
∧ ∃ (z_1:Nat),z_1≤(b+(1:Int)).toNat∧Y.m.1 - z_1<Y.m.1 - z∧b=b∧rE (0:Nat)∧rE (0:Nat)∧snF Y.m z+(1:Int)=snF Y.m z_1∧(↑z:Int)+(1:Int)=(↑z_1:Int)∧rE Y.c.1∧(∀ (i:Nat),i<Y.c.1→rE ((Y.c.f i).sv.den)∧True∧True∧True∧True∧True∧True∧True∧True∧True)∧rE Y.m.1∧(∀ (i:Nat),i<Y.m.1→rE ((Y.m.f i).sv.den)∧True∧True∧True∧True)∧True)∧(¬(Y.m.f ((↑z:Int) - (1:Int)).toNat).2=(-1:Int)→(0:Nat)<(1:Nat)∧rI ((↑z:Int) - (1:Int))∧(0:Int)≤(↑z:Int) - (1:Int)∧(↑z:Int) - (1:Int)<(↑Y.m.1:Int)∧(0:Nat)<(1:Nat)∧(¬(Y.m.f ((↑z:Int) - (1:Int)).toNat).1=(Y.m.f (↑z:Int).toNat).1→rI (snF Y.m z+(1:Int))∧rI ((↑z:Int)+(1:Int))∧∃ (z_1:Nat),z_1≤(b+(1:Int)).toNat∧Y.m.1 - z_1<Y.m.1 - z∧b=b∧rE (0:Nat)∧rE (0:Nat)∧snF Y.m z+(1:Int)=snF
Y.m z_1∧(↑z:Int)+(1:Int)=(↑z_1:Int)∧rE Y.c.1∧(∀ (i:Nat),i<Y.c.1→rE ((Y.c.f i).sv.den)∧True∧True∧True∧True∧True∧True∧True∧True∧True)∧rE Y.m.1∧(∀ (i:Nat),i<Y.m.1→rE ((Y.m.f i).sv.den)∧True∧True∧True∧True)∧True)∧(¬¬(Y.m.f ((↑z:Int) - (1:Int)).toNat).1=(Y.m.f (↑z:Int).toNat).1→rI ((↑z:Int)+(1:Int))∧∃ (z_1:Nat),z_1≤(b+(1:Int)).toNat∧Y.m.1 - z_1<Y.m.1 - z∧b=b∧rE (0:Nat)∧rE (0:Nat)∧snF Y.m z=snF Y.m z_1∧(↑z:Int)+(1:Int)=(↑z_1:Int)∧rE Y.c.1∧(∀ (i:Nat),i<Y.c.1→rE ((Y.c.f i).sv.den)∧True∧True∧True∧True∧True∧True∧True∧True∧True)∧rE Y.m.1∧(∀ (i:Nat),i<Y.m.1→rE ((Y.m.f i).sv.den)∧True∧True∧True∧True)∧True)))))∧(¬(↑z:Int)≤b→snF Y.m z=snF Y.m (b+(1:Int)).toNat∧True)):=by kernel_rfl
theorem cnG_vc (Y:Yd) (o:Int):cnG Y o =
((0:Nat)<(1:Nat)∧(0:Int)≤(↑Y.c.1:Int)∧(↑Y.c.1:Int)≤(↑Y.c.1:Int)∧(↑Y.c.1:Int)≤(1048576:Int)∧(↑Y.c.1:Int)*(↑(8:Nat):Int)≤(140737488355328:Int)∧(∃ (z:Nat),z≤Y.m.1∧o=o∧rE (↑Y.m.1:Int)∧rE (0:Nat)∧rE (0:Nat)∧rE (0:Nat)∧(↑Y.c.1:Int).toNat=Y.c.1∧(0:Int)=(↑z:Int)∧rE Y.c.1∧(∀ (i:Nat),i<Y.c.1→rE ((Y.c.f i).sv.den)∧True∧True∧True∧True∧True∧True∧True∧True∧True)∧rE Y.m.1∧(∀ (i:Nat),i<Y.m.1→rE ((Y.m.f i).sv.den)∧True∧True∧True∧True)∧Y.c.1=(↑Y.c.1:Int).toNat∧(∀ (i:Nat),i<Y.c.1→rE (1:Nat)∧(0:Int)=ctF Y.m o z i∧True)∧True)∧∀ (z:Nat),z≤Y.m.1→((↑z:Int)<(↑Y.m.1:Int)→(0:Nat)<(1:Nat)∧(0:Int)≤(↑z:Int)∧(↑z:Int)<(↑Y.m.1:Int)∧(0:Nat)<(1:Nat)∧(¬(Y.m.f (↑z:Int).toNat).2=(-1:Int)→(0:Nat)<(1:Nat) ∧
(∀ (i:Nat),i<Y.c.1→True∧True∧True∧True∧True∧True∧True∧True∧True)∧(∀ (i:Nat),i<Y.m.1→True∧True∧True∧True)∧(SV.lst (8:Nat) Y.c.n fun i=>(Y.c.f i).sv)=(clOf Y.c.n fun i=>(Y.c.f i).sv).sv∧(SV.lst (3:Nat) Y.m.n fun i=>(Y.m.f i).sv)=(msOf Y.m.n fun i=>(Y.m.f i).sv).sv∧((0:Int)≤(↑z:Int)∧(↑z:Int)<(↑Y.m.1:Int)∧Y.m.1≤(1000:Nat))∧(snF (msOf Y.m.n fun i=>(Y.m.f i).sv) ((↑z:Int)+(1:Int)).toNat=o→(0:Nat)<(1:Nat)∧(0:Nat)<(1:Nat)∧(0:Int)≤(Y.m.f (↑z:Int).toNat).2∧(Y.m.f (↑z:Int).toNat).2<(↑Y.c.1:Int)∧(0:Nat)+(Y.m.f (↑z:Int).toNat).2.toNat<Y.c.1∧(0:Nat)<(1:Nat)∧rI (ctF Y.m o z ((0:Nat)+(Y.m.f (↑z:Int).toNat).2.toNat)+(Y.m.f (↑z:Int).toNat).3)∧(0:Int)≤(Y.m.f (↑z:Int).toNat).2∧(Y.m.f (↑z:Int).toNat).2<(↑Y.c.1:Int)∧(0:Nat)+(1:Nat) ≤
(1:Nat)∧(0:Nat)+(Y.m.f (↑z:Int).toNat).2.toNat<Y.c.1∧(∀ (i':Nat),rE true)∧rI ((↑z:Int)+(1:Int))∧∃ (z_1:Nat),z_1≤Y.m.1∧Y.m.1 - z_1<Y.m.1 - z∧o=o∧rE (↑Y.m.1:Int)∧rE (0:Nat)∧rE (0:Nat)∧rE (0:Nat)∧rE Y.c.1∧(↑z:Int)+(1:Int)=(↑z_1:Int)∧rE Y.c.1∧(∀ (i:Nat),i<Y.c.1→rE ((Y.c.f i).sv.den)∧True∧True∧True∧True∧True∧True∧True∧True∧True)∧rE Y.m.1∧(∀ (i:Nat),i<Y.m.1→rE ((Y.m.f i).sv.den)∧True∧True∧True∧True)∧rE Y.c.1∧(∀ (i:Nat),i<Y.c.1→rE (1:Nat)∧(if i=(0:Nat)+(Y.m.f (↑z:Int).toNat).2.toNat then ctF Y.m o z ((0:Nat)+(Y.m.f (↑z:Int).toNat).2.toNat)+(Y.m.f (↑z:Int).toNat).3 else ctF Y.m o z i)=ctF Y.m o z_1 i∧True)∧True)∧(¬snF (msOf Y.m.n fun i=>(Y.m.f i).sv) ((↑z:Int)+(1:Int)).toNat=o→rI ((↑z:Int)+(1:Int))∧∃ (z_1:Nat),z_1 ≤
Y.m.1∧Y.m.1 - z_1<Y.m.1 - z∧o=o∧rE (↑Y.m.1:Int)∧rE (0:Nat)∧rE (0:Nat)∧rE (0:Nat)∧rE Y.c.1∧(↑z:Int)+(1:Int)=(↑z_1:Int)∧rE Y.c.1∧(∀ (i:Nat),i<Y.c.1→rE ((Y.c.f i).sv.den)∧True∧True∧True∧True∧True∧True∧True∧True∧True)∧rE Y.m.1∧(∀ (i:Nat),i<Y.m.1→rE ((Y.m.f i).sv.den)∧True∧True∧True∧True)∧rE Y.c.1∧(∀ (i:Nat),i<Y.c.1→rE (1:Nat)∧ctF Y.m o z i=ctF Y.m o z_1 i∧True)∧True))∧(¬¬(Y.m.f (↑z:Int).toNat).2=(-1:Int)→rI ((↑z:Int)+(1:Int))∧∃ (z_1:Nat),z_1≤Y.m.1∧Y.m.1 - z_1<Y.m.1 - z∧o=o∧rE (↑Y.m.1:Int)∧rE (0:Nat)∧rE (0:Nat)∧rE (0:Nat)∧rE Y.c.1∧(↑z:Int)+(1:Int)=(↑z_1:Int)∧rE Y.c.1∧(∀ (i:Nat),i<Y.c.1→rE ((Y.c.f i).sv.den)∧True∧True∧True∧True∧True∧True∧True∧True∧True)∧rE Y.m.1∧(∀ (i:Nat),i<Y.m.1→rE
((Y.m.f i).sv.den)∧True∧True∧True∧True)∧rE Y.c.1∧(∀ (i:Nat),i<Y.c.1→rE (1:Nat)∧ctF Y.m o z i=ctF Y.m o z_1 i∧True)∧True))∧(¬(↑z:Int)<(↑Y.m.1:Int)→rE Y.c.1∧(0:Nat)+Y.c.1≤Y.c.1∧(∀ (i:Nat),i<Y.c.1→rE (1:Nat)∧rE (1:Nat)∧ctF Y.m o z (i+(0:Nat))=ctF Y.m o Y.m.1 i∧True)∧True)):=by kernel_rfl
end Go.Proofs.Ytmohedjgoakdjaa

set_option maxRecDepth 100000
namespace Go.Proofs.Ytmohedjgoakdjaa
open Go Go.Lg
attribute [local irreducible] funS bodyH
theorem sn_y {M:Ms} {z:Nat} (h:stI M z):snF M (z+1)=snF M z+1:=by
 have e:snF M (z+1)=snF M z+1 - 1+(@ite _ (stI M z) (Classical.propDecidable _) 1 0):=by unfold snF; simp only [sumJ]; omega
 rw [e,if_pos h]; omega
theorem sn_n {M:Ms} {z:Nat} (h:¬ stI M z):snF M (z+1)=snF M z:=by
 have e:snF M (z+1)=snF M z+1 - 1+(@ite _ (stI M z) (Classical.propDecidable _) 1 0):=by unfold snF; simp only [sumJ]; omega
 rw [e,if_neg h]; omega
theorem sn_bd (M:Ms) (z:Nat):-1≤snF M z∧snF M z≤z - 1:=by
 induction z with
 | zero=>simp [snF,sumJ]
 | succ z ih =>
  by_cases h:stI M z
  ·rw [sn_y h]; omega
  ·rw [sn_n h]; omega
theorem lr_true {Y:Yd} {b:Int} (h:0≤b∧b<Y.m.n∧Y.m.n≤1000):lrG Y b:=by
 rw [lrG_vc]
 simp only [rI,rE,and_true,true_and,Nat.zero_lt_one,and_self,implies_true,Int.toNat_natCast,Classical.not_not]
 refine ⟨⟨0,by omega,rfl,rfl⟩,fun z hz=>⟨fun hl=>⟨by omega,by omega,fun hd=>?_,fun hd=>⟨fun h0=>?_,fun h0=>⟨by omega,by omega,by omega,fun hp=>?_,fun hp=>⟨by omega,by omega,by omega,fun hh=>?_,fun hh=>?_⟩⟩⟩⟩,fun hl=>?_⟩⟩
 ·exact ⟨by omega,z+1,by omega,by omega,(sn_n fun s=>s.1 hd).symm,by omega⟩
 ·have b:=sn_bd Y.m z
  exact ⟨by omega,by omega,z+1,by omega,by omega,(sn_y ⟨hd,.inl (by omega)⟩).symm,by omega⟩
 all_goals try (have e1:((z:Int) - 1).toNat=z - 1:=by omega)
 ·rw [e1] at hp
  have b:=sn_bd Y.m z
  exact ⟨by omega,by omega,z+1,by omega,by omega,(sn_y ⟨hd,.inr (.inl hp)⟩).symm,by omega⟩
 ·rw [e1] at hh
  have b:=sn_bd Y.m z
  exact ⟨by omega,by omega,z+1,by omega,by omega,(sn_y ⟨hd,.inr (.inr hh)⟩).symm,by omega⟩
 ·rw [e1] at hh hp
  refine ⟨by omega,z+1,by omega,by omega,(sn_n fun s=>?_).symm,by omega⟩
  rcases s.2 with s | s | s
  ·omega
  ·exact hp s
  ·exact s hh
 ·have:z=(b+1).toNat:=by omega
  rw [this]
theorem lr_ok:lrC.Ok Try.prog:=by
 refine ⟨by kernel_rfl,fun x k hk=>?_⟩
 simp only [lrC] at hk
 split at hk
 ·rename_i n f m g b
  obtain ⟨h1,h2,h3,hk⟩:=hk
  have hh:=lr_true (Y:=⟨clOf n f,msOf m g⟩) (b:=b) h3
  unfold lrG at hh
  simp only [Yd.sv] at hh
  rw [← h1,← h2] at hh
  have hh:funH Try.prog (ctrs []) noX (ictrs []) _ noL 50 [.agg [.lst 8 n f,.lst 3 m g],i6 b] _:=hh
  exact ⟨_,plainD nilS_cs nilS_x nilS_ic hh trivial,hk⟩
 ·exact hk.elim
theorem co_s (M:Ms) (o:Int) (k i:Nat):ctF M o (k+1) i=ctF M o k i+coI M o i k:=rfl
theorem co_bd {M:Ms} {c o:Int} (h:okMs c M) {k i:Nat} (hk:k≤M.n):0≤ctF M o k i∧ctF M o k i≤33554432:=by
 have:=sj_bd (g:=coI M o i) (B:=1048576) (m:=k) fun j hj=>by
  have m:=h.h j (by omega)
  have:=m.t0
  have:=m.t1
  unfold coI
  split <;> omega
 have:=h.n
 unfold ctF
 omega
theorem cn_true {Y:Yd} {o:Int} (hc:ckY Y=0):cnG Y o:=by
 obtain ⟨hC,hM,hS⟩:=ck_0 hc
 have hcn:=hC.b
 have hmn:=hM.n
 rw [cnG_vc]
 simp only [rI,rE,and_true,true_and,Nat.zero_lt_one,and_self,implies_true,Int.toNat_natCast,Classical.not_not,ms_fold,cl_fold,mv_fold,cv_fold,Nat.zero_add,Nat.add_zero]
 refine ⟨by omega,by omega,by omega,by omega,⟨0,by omega,rfl,fun i hi=>rfl⟩,fun z hz=>⟨fun hl=>?_,fun hl=>?_⟩⟩
 ·have m:=hM.h z (by omega)
  have t0:=m.t0
  have t1:=m.t1
  have c0:=m.c0
  have c1:=m.c1
  have e1:((z:Int)+1).toNat=z+1:=by omega
  rw [e1]
  refine ⟨by omega,hl,fun hd=>⟨⟨by omega,hl,by omega⟩,fun ho=>?_,fun ho=>?_⟩,fun hd=>?_⟩
  ·have b:=co_bd hM (o:=o) (k:=z) (i:=(Y.m.f z).co.toNat) hz
   refine ⟨by omega,by omega,by omega,by omega,by omega,by omega,by omega,by omega,by omega,z+1,by omega,by omega,by omega,fun i hi=>?_⟩
   rw [co_s]
   unfold coI
   by_cases e:i=(Y.m.f z).co.toNat
   ·rw [if_pos e,if_pos ⟨by omega,ho⟩,← e]
   ·rw [if_neg e,if_neg (fun x=>e (by omega))]; omega
  ·refine ⟨by omega,z+1,by omega,by omega,by omega,fun i hi=>?_⟩
   rw [co_s]
   unfold coI
   rw [if_neg fun x=>ho x.2]; omega
  ·refine ⟨by omega,z+1,by omega,by omega,by omega,fun i hi=>?_⟩
   rw [co_s]
   unfold coI
   rw [if_neg fun x=>by omega]; omega
 ·have:z=Y.m.n:=by omega
  subst this
  exact ⟨Nat.le_refl _,fun i hi=>rfl⟩
theorem cn_ok:cnC.Ok Try.prog:=by
 refine ⟨by kernel_rfl,fun x k hk=>?_⟩
 simp only [cnC] at hk
 split at hk
 ·rename_i n f m g o b
  obtain ⟨h1,h2,⟨rfl,h3⟩,hk⟩:=hk
  have hh:=cn_true (Y:=⟨clOf n f,msOf m g⟩) (o:=o) h3
  unfold cnG at hh
  simp only [Yd.sv] at hh
  rw [← h1,← h2] at hh
  have hh:funN Try.prog (ctrs [lrC]) noX (ictrs []) _ noL 28 [.agg [.lst 8 n f,.lst 3 m g],i6 o,i6 m] _:=hh
  exact ⟨_,newD (one_cs lr_ok) nilS_x nilS_ic hh (by simp [flatS,flatSL,scS,SV.cells]),hk⟩
 ·exact hk.elim
end Go.Proofs.Ytmohedjgoakdjaa
