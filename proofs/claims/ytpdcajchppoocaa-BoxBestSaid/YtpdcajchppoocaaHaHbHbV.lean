import Derived.Test.YtpdcajchppoocaaEaEbEc
import Derived.Test.YtpdcajchppoocaaWe0We2Wd
import Derived.Test.YtpdcajchppoocaaEjVEkEkVElEm
import Derived.Test.YtpdcajchppoocaaPfPgPhPiPjPkPnPxPu
set_option linter.unusedVariables false
set_option linter.unusedSimpArgs false
namespace Go.Lg
structure Pl where
 c:Bool
 t:Nat
 k:Int
def Pl.sv (p:Pl):SV:=.agg [.dec (p.c=true) inferInstance,b6 p.t,b6 p.k]
def zP:Pl:=⟨false,0,0⟩
def beP (p q:Pl):Prop:=p.c=true∧(¬ q.c=true∨p.k<q.k)
instance (p q:Pl):Decidable (beP p q):=inferInstanceAs (Decidable (_∧_))
def cut (f:Nat→Int) (i:Nat):Int:=if i<5 then f i else 0
def nfS (s:St):St:=⟨s.h,s.n,cut s.bx,cut s.fo,cut s.rv,cut s.ba⟩
theorem cut_lt {f:Nat→Int} {i:Nat} (h:i<5):cut f i=f i:=if_pos h
def chP (T:Tn) (R:St→Pl) (s:St) (b:Bool):Pl :=
 if b=true∧s.n=1 then zP else
 if 0<slS T (if b=true then tnS T s else s) (T.hi s.h.toNat) then zP else
 if (R (nfS (psS T (if b=true then tnS T s else s) (T.hi s.h.toNat)))).c=true then
  ⟨true,(if b=true then 2 ^ s.h.toNat else 0) ||| (R (nfS (psS T (if b=true then tnS T s else s) (T.hi s.h.toNat)))).t,(if b=true then coS T s else 0)+(R (nfS (psS T (if b=true then tnS T s else s) (T.hi s.h.toNat)))).k⟩
 else zP
def upP (p q:Pl):Pl:=if beP p q then p else q
def kyP (T:Tn) (R:St→Pl) (k:St):Pl:=upP (chP T R k true) (upP (chP T R k false) zP)
def plP (T:Tn):Nat→St→Pl
 | 0,_=>⟨true,0,0⟩
 | m+1,s=>kyP T (plP T m) (nfS (cbS T.nb s))
def pvK (T:Tn) (k:St):Pl:=kyP T (plP T (T.nl - k.h.toNat - 1)) k
def mgK (T:Tn) (K:Nat→St) (i:Nat):SV:=.tup [(K i).sv,(pvK T (K i)).sv]
theorem nf_ok {T:Tn} (h:okT T) {s:St} (hs:okS T s):okS T (nfS s):=by
 have hb:=h.nb
 refine ⟨hs.h,hs.n,fun i hi=>?_,fun i hi=>?_,fun i hi=>?_,fun i hi=>?_⟩
 ·show 0≤cut s.bx i∧cut s.bx i<_; rw [cut_lt (by omega)]; exact hs.bx i hi
 ·show 0≤cut s.rv i∧cut s.rv i≤_; rw [cut_lt (by omega)]; exact hs.rv i hi
 ·show 0≤cut s.fo i∧cut s.fo i≤T.rm (cut s.bx i).toNat - T.we*cut s.rv i; rw [cut_lt (by omega),cut_lt (by omega),cut_lt (by omega)]; exact hs.fo i hi
 ·show 0≤cut s.ba i∧cut s.ba i≤_; rw [cut_lt (by omega)]; exact hs.ba i hi
theorem nf_nf (s:St):nfS (nfS s)=nfS s:=by
 have e:∀ f:Nat→Int,cut (cut f)=cut f:=fun f=>by
  funext i; unfold cut; split <;> rfl
 show (⟨s.h,s.n,cut (cut s.bx),cut (cut s.fo),cut (cut s.rv),cut (cut s.ba)⟩:St)=_
 rw [e,e,e,e]; rfl
theorem nf_eq {s t:St} (hs:nfS s=s) (ht:nfS t=t) (h:s.h=t.h) (n:s.n=t.n) (hb:∀ i,i<5→s.bx i=t.bx i) (hf:∀ i,i<5→s.fo i=t.fo i) (hr:∀ i,i<5→s.rv i=t.rv i) (ha:∀ i,i<5→s.ba i=t.ba i):s=t:=by
 have e:∀ {f g:Nat→Int},(∀ i,i<5→f i=g i)→cut f=cut g:=fun {f g} he=>by
  funext i; unfold cut
  split
  ·rename_i hi; exact he i hi
  ·rfl
 rw [← hs,← ht]
 show (⟨s.h,s.n,cut s.bx,cut s.fo,cut s.rv,cut s.ba⟩:St)=⟨t.h,t.n,cut t.bx,cut t.fo,cut t.rv,cut t.ba⟩
 rw [h,n,e hb,e hf,e hr,e ha]
theorem nf_22 {s k:St} (hk:nfS k=k) (a0:s.h=k.h) (a1:s.n=k.n) (a2:s.bx 0=k.bx 0) (a3:s.bx 1=k.bx 1) (a4:s.bx 2=k.bx 2) (a5:s.bx 3=k.bx 3) (a6:s.bx 4=k.bx 4) (a7:s.fo 0=k.fo 0) (a8:s.fo 1=k.fo 1) (a9:s.fo 2=k.fo 2) (a10:s.fo 3=k.fo 3) (a11:s.fo 4=k.fo 4) (a12:s.rv 0=k.rv 0) (a13:s.rv 1=k.rv 1) (a14:s.rv 2=k.rv 2) (a15:s.rv 3=k.rv 3) (a16:s.rv 4=k.rv 4) (a17:s.ba 0=k.ba 0) (a18:s.ba 1=k.ba 1) (a19:s.ba 2=k.ba 2) (a20:s.ba 3=k.ba 3) (a21:s.ba 4=k.ba 4):nfS s=k:=by
 refine nf_eq (nf_nf s) hk a0 a1 (fun i hi=>by
   have:i=0∨i=1∨i=2∨i=3∨i=4:=by omega
   rcases this with rfl | rfl | rfl | rfl | rfl
   ·exact a2
   ·exact a3
   ·exact a4
   ·exact a5
   ·exact a6)
  (fun i hi=>by
   have:i=0∨i=1∨i=2∨i=3∨i=4:=by omega
   rcases this with rfl | rfl | rfl | rfl | rfl
   ·exact a7
   ·exact a8
   ·exact a9
   ·exact a10
   ·exact a11)
  (fun i hi=>by
   have:i=0∨i=1∨i=2∨i=3∨i=4:=by omega
   rcases this with rfl | rfl | rfl | rfl | rfl
   ·exact a12
   ·exact a13
   ·exact a14
   ·exact a15
   ·exact a16)
  (fun i hi=>by
   have:i=0∨i=1∨i=2∨i=3∨i=4:=by omega
   rcases this with rfl | rfl | rfl | rfl | rfl
   ·exact a17
   ·exact a18
   ·exact a19
   ·exact a20
   ·exact a21)
structure bdP (m:Nat) (h:Nat) (p:Pl):Prop where
 t:p.t<2 ^ (h+m)
 k:0≤p.k∧p.k≤1000*(m:Int)
theorem zP_bd (m h:Nat):bdP m h zP:=⟨Nat.two_pow_pos _,by show (0:Int)≤0∧(0:Int)≤_; omega⟩
theorem ch_bd {T:Tn} (hT:okT T) {m:Nat} {R:St→Pl} {s:St} {b:Bool} (hR:∀ u,u.h=s.h+1→bdP m (s.h.toNat+1) (R u)):bdP (m+1) s.h.toNat (chP T R s b):=by
 unfold chP
 by_cases h0:b=true∧s.n=1
 ·rw [if_pos h0]; exact zP_bd _ _
 rw [if_neg h0]
 by_cases h1:0<slS T (if b=true then tnS T s else s) (T.hi s.h.toNat)
 ·rw [if_pos h1]; exact zP_bd _ _
 rw [if_neg h1]
 have eh:(nfS (psS T (if b=true then tnS T s else s) (T.hi s.h.toNat))).h=s.h+1:=by
  show (if b=true then tnS T s else s).h+1=_
  split <;> rfl
 have h2:=hR _ eh
 generalize R (nfS (psS T (if b=true then tnS T s else s) (T.hi s.h.toNat)))=r at h2 ⊢
 by_cases h3:r.c=true
 ·rw [if_pos h3]
  have hw:=hT.wo
  have ht:=hT.ti
  obtain ⟨h4,h5⟩:=h2
  refine ⟨?_,?_⟩
  ·refine Nat.or_lt_two_pow ?_ (Nat.lt_of_lt_of_le h4 (Nat.pow_le_pow_right (by omega) (by omega)))
   split
   ·exact Nat.pow_lt_pow_right (by omega) (by omega)
   ·exact Nat.two_pow_pos _
  ·have hc:0≤(if b=true then coS T s else 0)∧(if b=true then coS T s else 0)≤1000:=by
    unfold coS
    split
    ·split <;> omega
    ·omega
   show 0≤(if b=true then coS T s else 0)+r.k∧(if b=true then coS T s else 0)+r.k≤_
   generalize (if b=true then coS T s else 0)=q at hc ⊢
   omega
 ·rw [if_neg h3]; exact zP_bd _ _
theorem up_bd {m h:Nat} {p q:Pl} (hp:bdP m h p) (hq:bdP m h q):bdP m h (upP p q):=by
 unfold upP
 by_cases h0:beP p q
 ·rw [if_pos h0]; exact hp
 ·rw [if_neg h0]; exact hq
theorem ky_bd {T:Tn} (hT:okT T) {m:Nat} {R:St→Pl} {s:St} (hR:∀ u,u.h=s.h+1→bdP m (s.h.toNat+1) (R u)):bdP (m+1) s.h.toNat (kyP T R s) :=
 up_bd (ch_bd hT hR) (up_bd (ch_bd hT hR) (zP_bd _ _))
theorem pl_bd {T:Tn} (hT:okT T):∀ (m:Nat) (s:St),0≤s.h→bdP m s.h.toNat (plP T m s)
 | 0,s,_=>⟨Nat.two_pow_pos _,by show (0:Int)≤0∧(0:Int)≤_; omega⟩
 | m+1,s,h=>by
  have eh:(nfS (cbS T.nb s)).h=s.h:=by show (cbS T.nb s).h=s.h; unfold cbS; split <;> rfl
  have:=ky_bd hT (m:=m) (R:=plP T m) (s:=nfS (cbS T.nb s)) (fun u hu=>by
   have:=pl_bd hT m u (by omega)
   rw [hu,eh] at this
   rw [eh,show s.h.toNat+1=(s.h+1).toNat by omega]; exact this)
  rw [eh] at this
  exact this
end Go.Lg

set_option maxRecDepth 100000
namespace Go.Proofs.Ytpdcajchppoocaa
open Go Go.Lg
attribute [local irreducible] bodyH
def tt23:Prop:=True∧True∧True∧True∧True∧True∧True∧True∧True∧True∧True∧True∧True∧True∧True∧True∧True∧True∧True∧True∧True∧True∧True
def ceq (s t:St) (p:Prop):Prop:=s.h=t.h∧s.n=t.n∧s.bx 0=t.bx 0∧s.bx 1=t.bx 1∧s.bx 2=t.bx 2∧s.bx 3=t.bx 3∧s.bx 4=t.bx 4∧s.fo 0=t.fo 0∧s.fo 1=t.fo 1∧s.fo 2=t.fo 2∧s.fo 3=t.fo 3∧s.fo 4=t.fo 4∧s.rv 0=t.rv 0∧s.rv 1=t.rv 1∧s.rv 2=t.rv 2∧s.rv 3=t.rv 3∧s.rv 4=t.rv 4∧s.ba 0=t.ba 0∧s.ba 1=t.ba 1∧s.ba 2=t.ba 2∧s.ba 3=t.ba 3∧s.ba 4=t.ba 4∧p
def peq (p q:Pl) (r:Prop):Prop:=(p.c=true↔q.c=true)∧(p.t:Int)=q.t∧p.k=q.k∧r
noncomputable def beG (a b:Pl):Prop:=funH Try.prog (ctrs []) noX (ictrs []) noL noL 60 [a.sv,b.sv] (.dec (beP a b) inferInstance)
noncomputable def beC:Ctr:=⟨60,fun args k=>match args with
 | [.agg [x,.int .i64 t,.int .i64 a],.agg [y,.int .i64 u,.int .i64 b]]=>∃ p q:Pl,((prB x↔p.c=true)∧(prB y↔q.c=true)∧t=p.t∧a=p.k∧u=q.t∧b=q.k∧kindOK [true,true] [x,y]=true)∧k (.dec (beP p q) inferInstance)
 | _=>False⟩
structure FrP where
 T:Tn
 s:St
 c:Nat
 K:Nat→St
def cloF:SV:=.clo (.func 58) [] [.ptr 0 0 0,.ptr 3 0 0,.ptr 4 0 0]
noncomputable def srX (T:Tn) (c:Nat) (K:Nat→St):XS:=mkX [vr 7 (tV T),vr 3 (.agg [.bool false,b6 0,b6 0]),some (mapR c (mgK T K)),vr 1 (.mp 2),vr 1 cloF]
structure okM (T:Tn) (c:Nat) (K:Nat→St):Prop where
 n:∀ i,i<c→nfS (K i)=K i
structure FrP.ok (M:Nat) (p:FrP):Prop where
 T:okT p.T
 S:okS p.T p.s
 h:p.s.h≤p.T.nl
 m:p.T.nl - p.s.h.toNat≤M
 k:okM p.T p.c p.K
noncomputable def frC (M:Nat):MCtr where
 f:=58
 p:=FrP
 r:=Nat × (Nat→St)
 pre:=FrP.ok M
 X0:=fun p=>srX p.T p.c p.K
 args:=fun p=>[p.s.sv,.ptr 0 0 0,.ptr 3 0 0,.ptr 4 0 0]
 out:=fun p y=>okM p.T y.1 y.2
 ch:=fun p y=>[(2,mapR y.1 (mgK p.T y.2))]
 res:=fun p y=>(plP p.T (p.T.nl - p.s.h.toNat) p.s).sv
structure ChP where
 T:Tn
 s:St
 b:Bool
 c:Nat
 K:Nat→St
structure ChP.ok (M:Nat) (p:ChP):Prop where
 T:okT p.T
 S:okS p.T p.s
 h:p.s.h<p.T.nl
 m:p.T.nl - p.s.h.toNat≤M
 k:okM p.T p.c p.K
noncomputable def chC (M:Nat):MCtr where
 f:=59
 p:=ChP
 r:=Nat × (Nat→St)
 pre:=ChP.ok M
 X0:=fun p=>srX p.T p.c p.K
 args:=fun p=>[tV p.T,p.s.sv,.bool p.b,cloF]
 out:=fun p y=>okM p.T y.1 y.2
 ch:=fun p y=>[(2,mapR y.1 (mgK p.T y.2))]
 res:=fun p y=>(chP p.T (plP p.T (p.T.nl - p.s.h.toNat - 1)) p.s p.b).sv
noncomputable def chfG (M:Nat) (T:Tn) (s:St) (c:Nat) (K:Nat→St):Prop:=mrH Try.prog (ctrs []) (ctrsP [trnP,pasP] (ctrsM [frC M] noX)) (ictrs []) noL noL (chC (M+1)) ⟨T,s,false,c,K⟩
noncomputable def chtG (M:Nat) (T:Tn) (s:St) (c:Nat) (K:Nat→St):Prop:=mrH Try.prog (ctrs []) (ctrsP [trnP,pasP] (ctrsM [frC M] noX)) (ictrs []) noL noL (chC (M+1)) ⟨T,s,true,c,K⟩
def bsR (T:Tn) (R:St→Pl) (k:St):Nat→Pl
 | 0=>zP
 | 1=>upP (chP T R k false) zP
 | _=>kyP T R k
noncomputable def frH (T:Tn) (s:St):HSpec :=
 { toLSpec:={ σ:=Nat × Nat × (Nat→St),inv:=fun z=>z.1≤2∧okM T z.2.1 z.2.2,μ:=fun z=>2 - z.1,nr:=8,ms:=fun _ _=>[],t:=fun z=>mkF 48 [(1,.ptr 0 0 0),(2,.ptr 3 0 0),(3,.ptr 4 0 0),(4,.ptr 5 0 0),(5,.ptr 6 0 0),(6,.ptr 7 0 0),(30,.agg [.bool false,.bool true]),(31,b6 z.1)],X:=fun z=>mkX [vr 7 (tV T),vr 3 (.agg [.bool false,b6 0,b6 0]),some (mapR z.2.1 (mgK T z.2.2)),vr 1 (.mp 2),vr 1 cloF,vr 22 (nfS (cbS T.nb s)).sv,vr 3 (.agg [.bool false,b6 0,b6 0]),vr 3 (bsR T (plP T (T.nl - s.h.toNat - 1)) (nfS (cbS T.nb s)) z.1).sv],rd:=fun _ _ k=>∃ z,k z,rdOK:=fun _ _ _ h=>h } }
noncomputable def frG (M:Nat) (T:Tn) (s:St) (c:Nat) (K:Nat→St):Prop:=mrH Try.prog (ctrs [beC]) (ctrsP [cbkP] (ctrsM [chC M] noX)) (ictrs []) (oneL 0 (frH T s)) noL (frC M) ⟨T,s,c,K⟩
end Go.Proofs.Ytpdcajchppoocaa

set_option maxRecDepth 100000
namespace Go.Proofs.Ytpdcajchppoocaa
open Go Go.Lg
local notation "Z0"=>(0:Int)
local notation "N0"=>(0:Nat)
local notation "N1"=>(1:Nat)
local notation "N2"=>(2:Nat)
local notation "N3"=>(3:Nat)
local notation "N4"=>(4:Nat)
theorem beG_vc (a:Pl) (b:Pl):beG a b=(N0<N1∧(a.1=true→N0<N1∧(¬b.1=true→(true=true↔beP a b)∧True)∧(¬¬b.1=true→N0<N1∧N0<N1∧(a.3<b.3↔beP a b)∧True))∧(¬a.1=true→(false=true↔beP a b)∧True)):=by kernel_rfl
theorem chfG_vc (M:Nat) (T:Tn) (s:St) (c:Nat) (K:Nat→St):chfG M T s c K=((∀ (i:Nat),i<T.1→True∧True∧True∧True)∧(∀ (i:Nat),i<T.10→True∧True∧True)∧(∀ (i:Nat),i<c→tt23∧(tt4)∧True)∧(∀ (i:Nat),i<T.1→True∧True∧True∧True)∧(∀ (i:Nat),i<T.10→True∧True∧True)∧N0<N1∧N0<N1∧N0<N1∧Z0≤s.1∧s.1<(↑T.10:Int)∧((∀ (i:Nat),i<T.1→True∧True∧True∧True)∧(∀ (i:Nat),i<T.10→True∧True∧True)∧∃ T_1 s_1,(SRow.v (Try.prog.cellsOf (79:Nat)) (SV.agg [b6 s.1,b6 s.2,b6 (s.3 N0),b6 (s.3 N1),b6 (s.3 N2),b6 (s.3 N3),b6 (s.3 N4),b6 (s.4 N0),b6 (s.4 N1),b6 (s.4 N2),b6 (s.4 N3),b6 (s.4 N4),b6 (s.5 N0),b6 (s.5 N1),b6 (s.5 N2),b6 (s.5 N3),b6 (s.5 N4),b6 (s.6 N0),b6 (s.6 N1),b6 (s.6 N2),b6 (s.6 N3),b6 (s.6 N4)])).f N0=s_1.sv∧tV T=tV T_1∧(okT T_1∧okS T_1 s_1∧s_1.1≤(15:Int)∧Z0≤T.12 s.h.toNat∧T.12 s.h.toNat≤(10000:Int))∧(Z0<slS T_1 s_1 (T.12 s.h.toNat)→N0<N1∧∃ (yp16_0:Nat × (Nat→St)),okM T yp16_0.fst yp16_0.snd∧(false=true↔(chP T (plP T (T.nl - s.h.toNat - N1)) s false).1=true)∧Z0=(↑(chP T (plP T (T.nl - s.h.toNat - N1)) s false).2:Int)∧Z0=(chP T (plP T (T.nl - s.h.toNat - N1)) s false).3∧T.1=T.1∧(∀ (i:Nat),i<T.1→rE ((bxV T i).den)∧True∧True∧True∧True)∧T.5=T.5∧T.6=T.6∧T.7=T.7∧T.8=T.8∧T.9=T.9∧rE T.10∧(∀ (i:Nat),i<T.10→rE ((ldV T i).den)∧True∧True∧True)∧rE false∧rE Z0∧rE Z0∧c=yp16_0.1∧(∀ (i_1:Nat),i_1<yp16_0.1→ceq (K i_1) (yp16_0.snd i_1) (peq (pvK T (K i_1)) (pvK T (yp16_0.snd i_1)) (tt23∧(tt4)∧True)))∧rE (Fn.func (58:FuncId))∧rE N0∧rE N0∧rE N0∧rE N0∧rE N0∧rE N0∧True)∧(¬Z0<slS T_1 s_1 (T.12 s.h.toNat)→N0<N1∧∃ p,FrP.ok M p∧s_1.1+(1:Int)=p.s.1∧s_1.2=p.s.2∧s_1.3 N0=p.s.3 N0∧s_1.3 N1=p.s.3 N1∧s_1.3 N2=p.s.3 N2∧s_1.3 N3=p.s.3 N3∧s_1.3 N4=p.s.3 N4∧(if (↑N0:Int)<s_1.2 then s_1.4 N0+tkS T_1 s_1 (T.12 s.h.toNat) N0 else s_1.4 N0)=p.s.4 N0∧(if (↑N1:Int)<s_1.2 then s_1.4 N1+tkS T_1 s_1 (T.12 s.h.toNat) N1 else s_1.4 N1)=p.s.4 N1∧(if (↑N2:Int)<s_1.2 then s_1.4 N2+tkS T_1 s_1 (T.12 s.h.toNat) N2 else s_1.4 N2)=p.s.4 N2∧(if (↑N3:Int)<s_1.2 then s_1.4 N3+tkS T_1 s_1 (T.12 s.h.toNat) N3 else s_1.4 N3)=p.s.4 N3∧(if (↑N4:Int)<s_1.2 then s_1.4 N4+tkS T_1 s_1 (T.12 s.h.toNat) N4 else s_1.4 N4)=p.s.4 N4∧s_1.5 N0=p.s.5 N0∧s_1.5 N1=p.s.5 N1∧s_1.5 N2=p.s.5 N2∧s_1.5 N3=p.s.5 N3∧s_1.5 N4=p.s.5 N4∧s_1.6 N0=p.s.6 N0∧s_1.6 N1=p.s.6 N1∧s_1.6 N2=p.s.6 N2∧s_1.6 N3=p.s.6 N3∧s_1.6 N4=p.s.6 N4∧rE N0∧rE N0∧rE N0∧rE N0∧rE N0∧rE N0∧T.1=p.T.1∧(∀ (i:Nat),i<p.T.1→(bxV T i).den=(bxV p.T i).den)∧T.5=p.T.5∧T.6=p.T.6∧T.7=p.T.7∧T.8=p.T.8∧T.9=p.T.9∧T.10=p.T.10∧(∀ (i:Nat),i<p.T.10→(ldV T i).den=(ldV p.T i).den)∧rE false∧rE Z0∧rE Z0∧c=p.3∧(∀ (i:Nat),i<p.3→ceq (K i) (p.K i) (peq (pvK T (K i)) (pvK p.T (p.K i)) (tt23∧(tt4)∧True)))∧rE N0∧rE N0∧rE N0∧rE N0∧rE N0∧rE N0∧∀ (yp16_0:Nat × (Nat→St)),okM p.T yp16_0.fst yp16_0.snd→N0<N1∧(¬(plP p.T (p.T.nl - p.s.h.toNat) p.s).1=true→N0<N1∧∃ (yp16_1:Nat × (Nat→St)),okM T yp16_1.fst yp16_1.snd∧(false=true↔(chP T (plP T (T.nl - s.h.toNat - N1)) s false).1=true)∧Z0=(↑(chP T (plP T (T.nl - s.h.toNat - N1)) s false).2:Int)∧Z0=(chP T (plP T (T.nl - s.h.toNat - N1)) s false).3∧T.1=T.1∧(∀ (i:Nat),i<T.1→rE ((bxV T i).den)∧True∧True∧True∧True)∧T.5=T.5∧T.6=T.6∧T.7=T.7∧T.8=T.8∧T.9=T.9∧rE T.10∧(∀ (i:Nat),i<T.10→rE ((ldV T i).den)∧True∧True∧True)∧rE false∧rE Z0∧rE Z0∧yp16_0.1=yp16_1.1∧(∀ (i_2:Nat),i_2<yp16_1.1→ceq (yp16_0.snd i_2) (yp16_1.snd i_2) (peq (pvK p.T (yp16_0.snd i_2)) (pvK T (yp16_1.snd i_2)) (tt23∧(tt4)∧True)))∧rE (Fn.func (58:FuncId))∧rE N0∧rE N0∧rE N0∧rE N0∧rE N0∧rE N0∧True)∧(¬¬(plP p.T (p.T.nl - p.s.h.toNat) p.s).1=true→N0<N1∧N0<N1∧rI (Z0+(plP p.T (p.T.nl - p.s.h.toNat) p.s).3)∧N0<N1∧∃ (yp16_1:Nat × (Nat→St)),okM T yp16_1.fst yp16_1.snd∧(rE true↔(chP T (plP T (T.nl - s.h.toNat - N1)) s false).1=true)∧bitO IntKind.i64 Z0 (↑(plP p.T (p.T.nl - p.s.h.toNat) p.s).2:Int)=(↑(chP T (plP T (T.nl - s.h.toNat - N1)) s false).2:Int)∧Z0+(plP p.T (p.T.nl - p.s.h.toNat) p.s).3=(chP T (plP T (T.nl - s.h.toNat - N1)) s false).3∧T.1=T.1∧(∀ (i:Nat),i<T.1→rE ((bxV T i).den)∧True∧True∧True∧True)∧T.5=T.5∧T.6=T.6∧T.7=T.7∧T.8=T.8∧T.9=T.9∧rE T.10∧(∀ (i:Nat),i<T.10→rE ((ldV T i).den)∧True∧True∧True)∧rE false∧rE Z0∧rE Z0∧yp16_0.1=yp16_1.1∧(∀ (i_2:Nat),i_2<yp16_1.1→ceq (yp16_0.snd i_2) (yp16_1.snd i_2) (peq (pvK p.T (yp16_0.snd i_2)) (pvK T (yp16_1.snd i_2)) (tt23∧(tt4)∧True)))∧rE (Fn.func (58:FuncId))∧rE N0∧rE N0∧rE N0∧rE N0∧rE N0∧rE N0∧True)))∧True):=by kernel_rfl
theorem chtG_vc (M:Nat) (T:Tn) (s:St) (c:Nat) (K:Nat→St):chtG M T s c K=((∀ (i:Nat),i<T.1→True∧True∧True∧True)∧(∀ (i:Nat),i<T.10→True∧True∧True)∧(∀ (i:Nat),i<c→tt23∧(tt4)∧True)∧(∀ (i:Nat),i<T.1→True∧True∧True∧True)∧(∀ (i:Nat),i<T.10→True∧True∧True)∧N0<N1∧(s.2=(1:Int)→N0<N1∧∃ (yp16_0:Nat × (Nat→St)),okM T yp16_0.fst yp16_0.snd∧(false=true↔(chP T (plP T (T.nl - s.h.toNat - N1)) s true).1=true)∧Z0=(↑(chP T (plP T (T.nl - s.h.toNat - N1)) s true).2:Int)∧Z0=(chP T (plP T (T.nl - s.h.toNat - N1)) s true).3∧T.1=T.1∧(∀ (i:Nat),i<T.1→rE ((bxV T i).den)∧True∧True∧True∧True)∧T.5=T.5∧T.6=T.6∧T.7=T.7∧T.8=T.8∧T.9=T.9∧rE T.10∧(∀ (i:Nat),i<T.10→rE ((ldV T i).den)∧True∧True∧True)∧rE false∧rE Z0∧rE Z0∧c=yp16_0.1∧(∀ (i_1:Nat),i_1<yp16_0.1→ceq (K i_1) (yp16_0.snd i_1) (peq (pvK T (K i_1)) (pvK T (yp16_0.snd i_1)) (tt23∧(tt4)∧True)))∧rE (Fn.func (58:FuncId))∧rE N0∧rE N0∧rE N0∧rE N0∧rE N0∧rE N0∧True)∧(¬s.2=(1:Int)→N0<N1∧(Z0≤s.1∧s.1≤(↑(64:Nat):Int))∧rI ((1:Int)*shP s.1)∧N0<N1∧(∀ (i:Nat),i<T.1→True∧True∧True∧True)∧(∀ (i:Nat),i<T.10→True∧True∧True)∧∃ T_1 s_1,(SRow.v (Try.prog.cellsOf (79:Nat)) (SV.agg [b6 s.1,b6 s.2,b6 (s.3 N0),b6 (s.3 N1),b6 (s.3 N2),b6 (s.3 N3),b6 (s.3 N4),b6 (s.4 N0),b6 (s.4 N1),b6 (s.4 N2),b6 (s.4 N3),b6 (s.4 N4),b6 (s.5 N0),b6 (s.5 N1),b6 (s.5 N2),b6 (s.5 N3),b6 (s.5 N4),b6 (s.6 N0),b6 (s.6 N1),b6 (s.6 N2),b6 (s.6 N3),b6 (s.6 N4)])).f N0=s_1.sv∧tV T=tV T_1∧(okT T_1∧okS T_1 s_1∧(2:Int)≤s_1.2)∧N0<N1∧N0<N1∧Z0≤s.1∧s.1<(↑T.10:Int)∧((∀ (i:Nat),i<T.1→True∧True∧True∧True)∧(∀ (i:Nat),i<T.10→True∧True∧True)∧∃ T_2 s_2,(SRow.v trnP.S (tnS T_1 s_1).sv).f N0=s_2.sv∧tV T=tV T_2∧(okT T_2∧okS T_2 s_2∧s_2.1≤(15:Int)∧Z0≤T.12 s.h.toNat∧T.12 s.h.toNat≤(10000:Int))∧(Z0<slS T_2 s_2 (T.12 s.h.toNat)→N0<N1∧∃ (yp16_0:Nat × (Nat→St)),okM T yp16_0.fst yp16_0.snd∧(false=true↔(chP T (plP T (T.nl - s.h.toNat - N1)) s true).1=true)∧Z0=(↑(chP T (plP T (T.nl - s.h.toNat - N1)) s true).2:Int)∧Z0=(chP T (plP T (T.nl - s.h.toNat - N1)) s true).3∧T.1=T.1∧(∀ (i:Nat),i<T.1→rE ((bxV T i).den)∧True∧True∧True∧True)∧T.5=T.5∧T.6=T.6∧T.7=T.7∧T.8=T.8∧T.9=T.9∧rE T.10∧(∀ (i:Nat),i<T.10→rE ((ldV T i).den)∧True∧True∧True)∧rE false∧rE Z0∧rE Z0∧c=yp16_0.1∧(∀ (i_1:Nat),i_1<yp16_0.1→ceq (K i_1) (yp16_0.snd i_1) (peq (pvK T (K i_1)) (pvK T (yp16_0.snd i_1)) (tt23∧(tt4)∧True)))∧rE (Fn.func (58:FuncId))∧rE N0∧rE N0∧rE N0∧rE N0∧rE N0∧rE N0∧True)∧(¬Z0<slS T_2 s_2 (T.12 s.h.toNat)→N0<N1∧∃ p,FrP.ok M p∧s_2.1+(1:Int)=p.s.1∧s_2.2=p.s.2∧s_2.3 N0=p.s.3 N0∧s_2.3 N1=p.s.3 N1∧s_2.3 N2=p.s.3 N2∧s_2.3 N3=p.s.3 N3∧s_2.3 N4=p.s.3 N4∧(if (↑N0:Int)<s_2.2 then s_2.4 N0+tkS T_2 s_2 (T.12 s.h.toNat) N0 else s_2.4 N0)=p.s.4 N0∧(if (↑N1:Int)<s_2.2 then s_2.4 N1+tkS T_2 s_2 (T.12 s.h.toNat) N1 else s_2.4 N1)=p.s.4 N1∧(if (↑N2:Int)<s_2.2 then s_2.4 N2+tkS T_2 s_2 (T.12 s.h.toNat) N2 else s_2.4 N2)=p.s.4 N2∧(if (↑N3:Int)<s_2.2 then s_2.4 N3+tkS T_2 s_2 (T.12 s.h.toNat) N3 else s_2.4 N3)=p.s.4 N3∧(if (↑N4:Int)<s_2.2 then s_2.4 N4+tkS T_2 s_2 (T.12 s.h.toNat) N4 else s_2.4 N4)=p.s.4 N4∧s_2.5 N0=p.s.5 N0∧s_2.5 N1=p.s.5 N1∧s_2.5 N2=p.s.5 N2∧s_2.5 N3=p.s.5 N3∧s_2.5 N4=p.s.5 N4∧s_2.6 N0=p.s.6 N0∧s_2.6 N1=p.s.6 N1∧s_2.6 N2=p.s.6 N2∧s_2.6 N3=p.s.6 N3∧s_2.6 N4=p.s.6 N4∧rE N0∧rE N0∧rE N0∧rE N0∧rE N0∧rE N0∧T.1=p.T.1∧(∀ (i:Nat),i<p.T.1→(bxV T i).den=(bxV p.T i).den)∧T.5=p.T.5∧T.6=p.T.6∧T.7=p.T.7∧T.8=p.T.8∧T.9=p.T.9∧T.10=p.T.10∧(∀ (i:Nat),i<p.T.10→(ldV T i).den=(ldV p.T i).den)∧rE false∧rE Z0∧rE Z0∧c=p.3∧(∀ (i:Nat),i<p.3→ceq (K i) (p.K i) (peq (pvK T (K i)) (pvK p.T (p.K i)) (tt23∧(tt4)∧True)))∧rE N0∧rE N0∧rE N0∧rE N0∧rE N0∧rE N0∧∀ (yp16_0:Nat × (Nat→St)),okM p.T yp16_0.fst yp16_0.snd→N0<N1∧(¬(plP p.T (p.T.nl - p.s.h.toNat) p.s).1=true→N0<N1∧∃ (yp16_1:Nat × (Nat→St)),okM T yp16_1.fst yp16_1.snd∧(false=true↔(chP T (plP T (T.nl - s.h.toNat - N1)) s true).1=true)∧Z0=(↑(chP T (plP T (T.nl - s.h.toNat - N1)) s true).2:Int)∧Z0=(chP T (plP T (T.nl - s.h.toNat - N1)) s true).3∧T.1=T.1∧(∀ (i:Nat),i<T.1→rE ((bxV T i).den)∧True∧True∧True∧True)∧T.5=T.5∧T.6=T.6∧T.7=T.7∧T.8=T.8∧T.9=T.9∧rE T.10∧(∀ (i:Nat),i<T.10→rE ((ldV T i).den)∧True∧True∧True)∧rE false∧rE Z0∧rE Z0∧yp16_0.1=yp16_1.1∧(∀ (i_2:Nat),i_2<yp16_1.1→ceq (yp16_0.snd i_2) (yp16_1.snd i_2) (peq (pvK p.T (yp16_0.snd i_2)) (pvK T (yp16_1.snd i_2)) (tt23∧(tt4)∧True)))∧rE (Fn.func (58:FuncId))∧rE N0∧rE N0∧rE N0∧rE N0∧rE N0∧rE N0∧True)∧(¬¬(plP p.T (p.T.nl - p.s.h.toNat) p.s).1=true→N0<N1∧N0<N1∧rI (coS T_1 s_1+(plP p.T (p.T.nl - p.s.h.toNat) p.s).3)∧N0<N1∧∃ (yp16_1:Nat × (Nat→St)),okM T yp16_1.fst yp16_1.snd∧(rE true↔(chP T (plP T (T.nl - s.h.toNat - N1)) s true).1=true)∧bitO IntKind.i64 ((1:Int)*shP s.1) (↑(plP p.T (p.T.nl - p.s.h.toNat) p.s).2:Int)=(↑(chP T (plP T (T.nl - s.h.toNat - N1)) s true).2:Int)∧coS T_1 s_1+(plP p.T (p.T.nl - p.s.h.toNat) p.s).3=(chP T (plP T (T.nl - s.h.toNat - N1)) s true).3∧T.1=T.1∧(∀ (i:Nat),i<T.1→rE ((bxV T i).den)∧True∧True∧True∧True)∧T.5=T.5∧T.6=T.6∧T.7=T.7∧T.8=T.8∧T.9=T.9∧rE T.10∧(∀ (i:Nat),i<T.10→rE ((ldV T i).den)∧True∧True∧True)∧rE false∧rE Z0∧rE Z0∧yp16_0.1=yp16_1.1∧(∀ (i_2:Nat),i_2<yp16_1.1→ceq (yp16_0.snd i_2) (yp16_1.snd i_2) (peq (pvK p.T (yp16_0.snd i_2)) (pvK T (yp16_1.snd i_2)) (tt23∧(tt4)∧True)))∧rE (Fn.func (58:FuncId))∧rE N0∧rE N0∧rE N0∧rE N0∧rE N0∧rE N0∧True)))∧True)):=by kernel_rfl
def frG0 (T:Tn):Prop:=(∀ (i:Nat),i<T.1→rE ((bxV T i).den)∧True∧True∧True∧True)
def frG1 (T:Tn):Prop:=(∀ (i:Nat),i<T.10→rE ((ldV T i).den)∧True∧True∧True)
theorem frG_vc (M:Nat) (T:Tn) (s:St) (c:Nat) (K:Nat→St):frG M T s c K=((∀ (i:Nat),i<T.1→True∧True∧True∧True)∧(∀ (i:Nat),i<T.10→True∧True∧True)∧(∀ (i:Nat),i<c→tt23∧(tt4)∧True)∧N0<N1∧N0<N1∧(s.1=(↑T.10:Int)→N0<N1∧∃ (yp16_0:Nat × (Nat→St)),okM T yp16_0.fst yp16_0.snd∧(rE true↔(plP T (T.nl - s.h.toNat) s).1=true)∧Z0=(↑(plP T (T.nl - s.h.toNat) s).2:Int)∧Z0=(plP T (T.nl - s.h.toNat) s).3∧T.1=T.1∧(frG0 T)∧T.5=T.5∧T.6=T.6∧T.7=T.7∧T.8=T.8∧T.9=T.9∧rE T.10∧(frG1 T)∧rE false∧rE Z0∧rE Z0∧c=yp16_0.1∧(∀ (i_1:Nat),i_1<yp16_0.1→ceq (K i_1) (yp16_0.snd i_1) (peq (pvK T (K i_1)) (pvK T (yp16_0.snd i_1)) (tt23∧(tt4)∧True)))∧rE (Fn.func (58:FuncId))∧rE N0∧rE N0∧rE N0∧rE N0∧rE N0∧rE N0∧True)∧(¬s.1=(↑T.10:Int)→(0
: Nat)<N1∧∃ s_1,(SRow.v (Try.prog.cellsOf (79:Nat)) (SV.agg [b6 s.1,b6 s.2,b6 (s.3 N0),b6 (s.3 N1),b6 (s.3 N2),b6 (s.3 N3),b6 (s.3 N4),b6 (s.4 N0),b6 (s.4 N1),b6 (s.4 N2),b6 (s.4 N3),b6 (s.4 N4),b6 (s.5 N0),b6 (s.5 N1),b6 (s.5 N2),b6 (s.5 N3),b6 (s.5 N4),b6 (s.6 N0),b6 (s.6 N1),b6 (s.6 N2),b6 (s.6 N3),b6 (s.6 N4)])).f N0=s_1.sv∧(Z0≤s_1.2∧s_1.2≤(5:Int)∧(↑T.1:Int)≤(5:Int))∧N0<N1∧N0<N1∧(∀ (j:Nat),j<c→rE true)∧(∀ (j:Nat),j<c→ceq (cbS (↑T.nb:Int) s_1) (K j) (True)→(∀ (j':Nat),j'<j→¬(ceq (cbS (↑T.nb:Int) s_1) (K j') (True)))→N0<N1∧N0<N1∧∃ (yp16_1:Nat × (Nat→St)),okM T yp16_1.fst
yp16_1.snd∧peq (pvK T (K j)) (plP T (T.nl - s.h.toNat) s) (T.1=T.1∧(frG0 T)∧T.5=T.5∧T.6=T.6∧T.7=T.7∧T.8=T.8∧T.9=T.9∧rE T.10∧(frG1 T)∧rE false∧rE Z0∧rE Z0∧c=yp16_1.1∧(∀ (i_2:Nat),i_2<yp16_1.1→ceq (K i_2) (yp16_1.snd i_2) (peq (pvK T (K i_2)) (pvK T (yp16_1.snd i_2)) (tt23∧(tt4)∧True)))∧rE (Fn.func (58:FuncId))∧rE N0∧rE N0∧rE N0∧rE N0∧rE N0∧rE N0∧True))∧((∀ (j:Nat),j<c→¬(ceq (cbS (↑T.nb:Int) s_1) (K j) (True)))→(∃ (zp22_0:Nat × Nat × (Nat→St)),(zp22_0.1≤N2∧okM T zp22_0.snd.fst zp22_0.snd.snd)∧rE N0∧rE N0∧rE N0∧rE N0∧rE N0∧rE N0∧rE N0∧rE N0∧rE N0∧rE N0∧rE N0∧rE N0∧rE false∧rE true∧Z0=(↑zp22_0.1:Int)∧T.1=T.1 ∧
(frG0 T)∧T.5=T.5∧T.6=T.6∧T.7=T.7∧T.8=T.8∧T.9=T.9∧rE T.10∧(frG1 T)∧rE false∧rE Z0∧rE Z0∧c=zp22_0.snd.1∧(∀ (i_1:Nat),i_1<zp22_0.snd.1→ceq (K i_1) (zp22_0.snd.snd i_1) (peq (pvK T (K i_1)) (pvK T (zp22_0.snd.snd i_1)) (tt23∧(tt4)∧True)))∧rE (Fn.func (58:FuncId))∧rE N0∧rE N0∧rE N0∧rE N0∧rE N0∧rE N0∧ceq (cbS (↑T.nb:Int) s_1) (nfS (cbS (↑T.nb:Int) s)) (rE false∧rE Z0∧rE Z0∧(false=true↔(bsR T (plP T (T.nl - s.h.toNat - N1)) (nfS (cbS (↑T.nb:Int) s)) zp22_0.fst).1=true)∧Z0=(↑(bsR T (plP T (T.nl - s.h.toNat - N1)) (nfS (cbS (↑T.nb:Int) s)) zp22_0.fst).2:Int)∧Z0=(bsR T (plP T (T.nl - s.h.toNat - N1)) (nfS (cbS (↑T.nb:Int) s)) zp22_0.fst).3∧True))∧∀ (zp22_0:Nat × Nat × (Nat→St)),zp22_0.1 ≤
N2∧okM T zp22_0.snd.fst zp22_0.snd.snd→((↑zp22_0.1:Int)<(2:Int)→Z0≤(↑zp22_0.1:Int)∧(↑zp22_0.1:Int)<(↑N2:Int)∧(↑zp22_0.1:Int).toNat*N1<N2∧N0<N1∧N0<N1∧N0<N1∧∃ p,ChP.ok M p∧T.1=p.T.1∧(∀ (i:Nat),i<p.T.1→(bxV T i).den=(bxV p.T i).den)∧T.5=p.T.5∧T.6=p.T.6∧T.7=p.T.7∧T.8=p.T.8∧T.9=p.T.9∧T.10=p.T.10∧(∀ (i:Nat),i<p.T.10→(ldV T i).den=(ldV p.T i).den)∧ceq (nfS (cbS (↑T.nb:Int) s)) p.s ((Nat.rec (motive:=fun x=>List.below (motive:=fun x=>Nat→Prop) [SV.bool false,SV.bool true]→Prop) (fun x=>decP (SV.bool false)) (fun n n_ih x=>x.1 n) ((↑zp22_0.fst:Int).toNat*Nat.succ N0) (List.rec ⟨cellD._f [] Unit.unit,Unit.unit⟩ (fun head tail tail_ih=>⟨cellD._f (head :: tail) tail_ih,tail_ih⟩) [SV.bool
true])↔p.3=true)∧rE N0∧rE N0∧rE N0∧rE N0∧rE N0∧rE N0∧T.1=p.T.1∧(∀ (i:Nat),i<p.T.1→(bxV T i).den=(bxV p.T i).den)∧T.5=p.T.5∧T.6=p.T.6∧T.7=p.T.7∧T.8=p.T.8∧T.9=p.T.9∧T.10=p.T.10∧(∀ (i:Nat),i<p.T.10→(ldV T i).den=(ldV p.T i).den)∧rE false∧rE Z0∧rE Z0∧zp22_0.snd.1=p.4∧(∀ (i_1:Nat),i_1<p.4→ceq (zp22_0.snd.snd i_1) (p.K i_1) (peq (pvK T (zp22_0.snd.snd i_1)) (pvK p.T (p.K i_1)) (tt23∧(tt4)∧True)))∧rE N0∧rE N0∧rE N0∧rE N0∧rE N0∧rE N0∧∀ (yp16_1:Nat × (Nat→St)),okM p.T yp16_1.fst yp16_1.snd→N0<N1∧N0<N1∧∃ p_1 q,(((chP p.T (plP p.T (p.T.nl - p.s.h.toNat - N1)) p.s p.b).1=true↔p_1.1=true)∧((bsR T (plP T (T.nl - s.h.toNat - N1)) (nfS (cbS
(↑T.nb:Int) s)) zp22_0.fst).1=true↔q.1=true)∧(↑(chP p.T (plP p.T (p.T.nl - p.s.h.toNat - N1)) p.s p.b).2:Int)=(↑p_1.2:Int)∧(chP p.T (plP p.T (p.T.nl - p.s.h.toNat - N1)) p.s p.b).3=p_1.3∧(↑(bsR T (plP T (T.nl - s.h.toNat - N1)) (nfS (cbS (↑T.nb:Int) s)) zp22_0.fst).2:Int)=(↑q.2:Int)∧(bsR T (plP T (T.nl - s.h.toNat - N1)) (nfS (cbS (↑T.nb:Int) s)) zp22_0.fst).3=q.3∧rE true)∧(beP p_1 q→N0<N1∧rI ((↑zp22_0.1:Int)+(1:Int))∧∃ (zp22_2:Nat × Nat × (Nat→St)),(zp22_2.1≤N2∧okM T zp22_2.snd.fst zp22_2.snd.snd)∧N2 - zp22_2.1<N2 - zp22_0.1∧rE N0∧rE N0∧rE N0∧rE N0∧rE N0∧rE N0∧rE N0∧rE N0∧rE N0∧rE N0∧rE N0∧rE N0∧rE false∧rE true∧(↑zp22_0.1:Int)+(1:Int) =
(↑zp22_2.1:Int)∧T.1=T.1∧(frG0 T)∧T.5=T.5∧T.6=T.6∧T.7=T.7∧T.8=T.8∧T.9=T.9∧rE T.10∧(frG1 T)∧rE false∧rE Z0∧rE Z0∧yp16_1.1=zp22_2.snd.1∧(∀ (i_3:Nat),i_3<zp22_2.snd.1→ceq (yp16_1.snd i_3) (zp22_2.snd.snd i_3) (peq (pvK p.T (yp16_1.snd i_3)) (pvK T (zp22_2.snd.snd i_3)) (tt23∧(tt4)∧True)))∧rE (Fn.func (58:FuncId))∧rE N0∧rE N0∧rE N0∧rE N0∧rE N0∧rE N0∧rE ((cbS (↑T.nb:Int) s).1)∧rE ((cbS (↑T.nb:Int) s).2)∧rE (cut (cbS (↑T.nb:Int) s).bx N0)∧rE (cut (cbS (↑T.nb:Int) s).bx N1)∧rE (cut (cbS (↑T.nb:Int) s).bx N2)∧rE (cut (cbS (↑T.nb:Int) s).bx N3)∧rE (cut (cbS (↑T.nb:Int) s).bx N4)∧rE (cut (cbS (↑T.nb:Int) s).fo N0)∧rE (cut (cbS (↑T.nb:Int) s).fo N1)∧rE (cut (cbS (↑T.nb:Int) s).fo (2 :
Nat))∧rE (cut (cbS (↑T.nb:Int) s).fo N3)∧rE (cut (cbS (↑T.nb:Int) s).fo N4)∧rE (cut (cbS (↑T.nb:Int) s).rv N0)∧rE (cut (cbS (↑T.nb:Int) s).rv N1)∧rE (cut (cbS (↑T.nb:Int) s).rv N2)∧rE (cut (cbS (↑T.nb:Int) s).rv N3)∧rE (cut (cbS (↑T.nb:Int) s).rv N4)∧rE (cut (cbS (↑T.nb:Int) s).ba N0)∧rE (cut (cbS (↑T.nb:Int) s).ba N1)∧rE (cut (cbS (↑T.nb:Int) s).ba N2)∧rE (cut (cbS (↑T.nb:Int) s).ba N3)∧rE (cut (cbS (↑T.nb:Int) s).ba N4)∧rE false∧rE Z0∧rE Z0∧peq (chP p.T (plP p.T (p.T.nl - p.s.h.toNat - N1)) p.s p.b) (bsR T (plP T (T.nl - s.h.toNat - N1)) (nfS (cbS (↑T.nb:Int) s)) zp22_2.fst) (True))∧(¬beP p_1 q→rI ((↑zp22_0.1:Int)+(1:Int))∧∃ (zp22_2:Nat × Nat × (Nat→St)),(zp22_2.1≤N2∧okM T zp22_2.snd.fst
zp22_2.snd.snd)∧N2 - zp22_2.1<N2 - zp22_0.1∧rE N0∧rE N0∧rE N0∧rE N0∧rE N0∧rE N0∧rE N0∧rE N0∧rE N0∧rE N0∧rE N0∧rE N0∧rE false∧rE true∧(↑zp22_0.1:Int)+(1:Int)=(↑zp22_2.1:Int)∧T.1=T.1∧(frG0 T)∧T.5=T.5∧T.6=T.6∧T.7=T.7∧T.8=T.8∧T.9=T.9∧rE T.10∧(frG1 T)∧rE false∧rE Z0∧rE Z0∧yp16_1.1=zp22_2.snd.1∧(∀ (i_3:Nat),i_3<zp22_2.snd.1→ceq (yp16_1.snd i_3) (zp22_2.snd.snd i_3) (peq (pvK p.T (yp16_1.snd i_3)) (pvK T (zp22_2.snd.snd i_3)) (tt23∧(tt4)∧True)))∧rE (Fn.func (58:FuncId))∧rE N0∧rE N0∧rE N0∧rE N0∧rE N0∧rE N0∧rE ((cbS (↑T.nb:Int) s).1)∧rE ((cbS (↑T.nb:Int) s).2)∧rE (cut (cbS (↑T.nb:Int) s).bx N0)∧rE (cut (cbS
(↑T.nb:Int) s).bx N1)∧rE (cut (cbS (↑T.nb:Int) s).bx N2)∧rE (cut (cbS (↑T.nb:Int) s).bx N3)∧rE (cut (cbS (↑T.nb:Int) s).bx N4)∧rE (cut (cbS (↑T.nb:Int) s).fo N0)∧rE (cut (cbS (↑T.nb:Int) s).fo N1)∧rE (cut (cbS (↑T.nb:Int) s).fo N2)∧rE (cut (cbS (↑T.nb:Int) s).fo N3)∧rE (cut (cbS (↑T.nb:Int) s).fo N4)∧rE (cut (cbS (↑T.nb:Int) s).rv N0)∧rE (cut (cbS (↑T.nb:Int) s).rv N1)∧rE (cut (cbS (↑T.nb:Int) s).rv N2)∧rE (cut (cbS (↑T.nb:Int) s).rv N3)∧rE (cut (cbS (↑T.nb:Int) s).rv N4)∧rE (cut (cbS (↑T.nb:Int) s).ba N0)∧rE (cut (cbS (↑T.nb:Int) s).ba N1)∧rE (cut (cbS (↑T.nb:Int) s).ba N2)∧rE (cut (cbS (↑T.nb:Int) s).ba N3)∧rE (cut (cbS (↑T.nb:Int) s).ba N4)∧rE false∧rE Z0∧rE Z0
∧ peq (bsR T (plP T (T.nl - s.h.toNat - N1)) (nfS (cbS (↑T.nb:Int) s)) zp22_0.fst) (bsR T (plP T (T.nl - s.h.toNat - N1)) (nfS (cbS (↑T.nb:Int) s)) zp22_2.fst) (True))))∧(¬(↑zp22_0.1:Int)<(2:Int)→N0<N1∧N0<N1∧N0<N1∧(∀ (j_1:Nat),j_1<zp22_0.snd.1→rE true)∧(∀ (j_1:Nat),j_1<zp22_0.snd.1→ceq (nfS (cbS (↑T.nb:Int) s)) (zp22_0.snd.snd j_1) (True)→(∀ (j_1':Nat),j_1'<j_1→¬(ceq (nfS (cbS (↑T.nb:Int) s)) (zp22_0.snd.snd j_1') (True)))→(∀ (q:Nat),rE true)∧N0<N1∧N0<N1∧∃ (yp16_2:Nat × (Nat→St)),okM T yp16_2.fst yp16_2.snd∧peq (bsR T (plP T (T.nl - s.h.toNat - N1)) (nfS (cbS (↑T.nb:Int) s)) zp22_0.fst) (plP T (T.nl - s.h.toNat) s) (T.1=T.1∧(frG0 T)∧T.5=T.5∧T.6=T.6∧T.7=T.7∧T.8=T.8∧T.9=T.9∧rE T.10∧(frG1 T) ∧
rE false∧rE Z0∧rE Z0∧zp22_0.snd.1=yp16_2.1∧(∀ (i_3:Nat),i_3<yp16_2.1→ceq (zp22_0.snd.snd i_3) (yp16_2.snd i_3) ((i_3=j_1∧(bsR T (plP T (T.nl - s.h.toNat - N1)) (nfS (cbS (↑T.nb:Int) s)) zp22_0.fst).c=true∨¬i_3=j_1∧(pvK T (zp22_0.snd.snd i_3)).c=true↔(pvK T (yp16_2.snd i_3)).1=true)∧(if i_3=j_1 then (↑(bsR T (plP T (T.nl - s.h.toNat - N1)) (nfS (cbS (↑T.nb:Int) s)) zp22_0.fst).2:Int) else (↑(pvK T (zp22_0.snd.snd i_3)).2:Int))=(↑(pvK T (yp16_2.snd i_3)).2:Int)∧(if i_3=j_1 then (bsR T (plP T (T.nl - s.h.toNat - N1)) (nfS (cbS (↑T.nb:Int) s)) zp22_0.fst).3 else (pvK T (zp22_0.snd.snd i_3)).3)=(pvK T (yp16_2.snd i_3)).3∧tt23∧(tt4)∧True))∧rE (Fn.func (58:FuncId))∧rE N0∧rE N0∧rE N0∧rE N0∧rE N0∧rE N0∧True))∧((∀ (j_1:Nat),j_1 <
zp22_0.snd.1→¬(ceq (nfS (cbS (↑T.nb:Int) s)) (zp22_0.snd.snd j_1) (True)))→(∀ (q:Nat),rE true)∧(∀ (q:Nat),rE true)∧N0<N1∧N0<N1∧∃ (yp16_1:Nat × (Nat→St)),okM T yp16_1.fst yp16_1.snd∧peq (bsR T (plP T (T.nl - s.h.toNat - N1)) (nfS (cbS (↑T.nb:Int) s)) zp22_0.fst) (plP T (T.nl - s.h.toNat) s) (T.1=T.1∧(frG0 T)∧T.5=T.5∧T.6=T.6∧T.7=T.7∧T.8=T.8∧T.9=T.9∧rE T.10∧(frG1 T)∧rE false∧rE Z0∧rE Z0∧zp22_0.snd.fst.succ=yp16_1.1∧(∀ (i_2:Nat),i_2<yp16_1.1→(if i_2<zp22_0.snd.1 then (zp22_0.snd.snd i_2).1 else (cbS (↑T.nb:Int) s).1)=(yp16_1.snd i_2).1∧(if i_2<zp22_0.snd.1 then (zp22_0.snd.snd i_2).2 else (cbS (↑T.nb:Int) s).2)=(yp16_1.snd i_2).2∧(if i_2<zp22_0.snd.1 then (zp22_0.snd.snd i_2).3 N0 else cut (cbS (↑T.nb:Int) s).bx N0)=(yp16_1.snd
i_2).3 N0∧(if i_2<zp22_0.snd.1 then (zp22_0.snd.snd i_2).3 N1 else cut (cbS (↑T.nb:Int) s).bx N1)=(yp16_1.snd i_2).3 N1∧(if i_2<zp22_0.snd.1 then (zp22_0.snd.snd i_2).3 N2 else cut (cbS (↑T.nb:Int) s).bx N2)=(yp16_1.snd i_2).3 N2∧(if i_2<zp22_0.snd.1 then (zp22_0.snd.snd i_2).3 N3 else cut (cbS (↑T.nb:Int) s).bx N3)=(yp16_1.snd i_2).3 N3∧(if i_2<zp22_0.snd.1 then (zp22_0.snd.snd i_2).3 N4 else cut (cbS (↑T.nb:Int) s).bx N4)=(yp16_1.snd i_2).3 N4∧(if i_2<zp22_0.snd.1 then (zp22_0.snd.snd i_2).4 N0 else cut (cbS (↑T.nb:Int) s).fo N0)=(yp16_1.snd i_2).4 N0∧(if i_2<zp22_0.snd.1 then (zp22_0.snd.snd i_2).4 N1 else cut (cbS (↑T.nb:Int) s).fo N1)=(yp16_1.snd i_2).4 N1∧(if i_2<zp22_0.snd.1 then (zp22_0.snd.snd
i_2).4 N2 else cut (cbS (↑T.nb:Int) s).fo N2)=(yp16_1.snd i_2).4 N2∧(if i_2<zp22_0.snd.1 then (zp22_0.snd.snd i_2).4 N3 else cut (cbS (↑T.nb:Int) s).fo N3)=(yp16_1.snd i_2).4 N3∧(if i_2<zp22_0.snd.1 then (zp22_0.snd.snd i_2).4 N4 else cut (cbS (↑T.nb:Int) s).fo N4)=(yp16_1.snd i_2).4 N4∧(if i_2<zp22_0.snd.1 then (zp22_0.snd.snd i_2).5 N0 else cut (cbS (↑T.nb:Int) s).rv N0)=(yp16_1.snd i_2).5 N0∧(if i_2<zp22_0.snd.1 then (zp22_0.snd.snd i_2).5 N1 else cut (cbS (↑T.nb:Int) s).rv N1)=(yp16_1.snd i_2).5 N1∧(if i_2<zp22_0.snd.1 then (zp22_0.snd.snd i_2).5 N2 else cut (cbS (↑T.nb:Int) s).rv N2)=(yp16_1.snd i_2).5 N2∧(if i_2<zp22_0.snd.1 then (zp22_0.snd.snd i_2).5 N3 else cut (cbS (↑T.nb:Int) s).rv N3) =
(yp16_1.snd i_2).5 N3∧(if i_2<zp22_0.snd.1 then (zp22_0.snd.snd i_2).5 N4 else cut (cbS (↑T.nb:Int) s).rv N4)=(yp16_1.snd i_2).5 N4∧(if i_2<zp22_0.snd.1 then (zp22_0.snd.snd i_2).6 N0 else cut (cbS (↑T.nb:Int) s).ba N0)=(yp16_1.snd i_2).6 N0∧(if i_2<zp22_0.snd.1 then (zp22_0.snd.snd i_2).6 N1 else cut (cbS (↑T.nb:Int) s).ba N1)=(yp16_1.snd i_2).6 N1∧(if i_2<zp22_0.snd.1 then (zp22_0.snd.snd i_2).6 N2 else cut (cbS (↑T.nb:Int) s).ba N2)=(yp16_1.snd i_2).6 N2∧(if i_2<zp22_0.snd.1 then (zp22_0.snd.snd i_2).6 N3 else cut (cbS (↑T.nb:Int) s).ba N3)=(yp16_1.snd i_2).6 N3∧(if i_2<zp22_0.snd.1 then (zp22_0.snd.snd i_2).6 N4 else cut (cbS (↑T.nb:Int) s).ba N4)=(yp16_1.snd i_2).6 N4∧(i_2<zp22_0.snd.fst∧(pvK T
(zp22_0.snd.snd i_2)).c=true∨¬i_2<zp22_0.snd.fst∧(bsR T (plP T (T.nl - s.h.toNat - N1)) (nfS (cbS (↑T.nb:Int) s)) zp22_0.fst).c=true↔(pvK T (yp16_1.snd i_2)).1=true)∧(if i_2<zp22_0.snd.1 then (↑(pvK T (zp22_0.snd.snd i_2)).2:Int) else (↑(bsR T (plP T (T.nl - s.h.toNat - N1)) (nfS (cbS (↑T.nb:Int) s)) zp22_0.fst).2:Int))=(↑(pvK T (yp16_1.snd i_2)).2:Int)∧(if i_2<zp22_0.snd.1 then (pvK T (zp22_0.snd.snd i_2)).3 else (bsR T (plP T (T.nl - s.h.toNat - N1)) (nfS (cbS (↑T.nb:Int) s)) zp22_0.fst).3)=(pvK T (yp16_1.snd i_2)).3∧tt23∧(tt4)∧True)∧rE (Fn.func (58:FuncId))∧rE N0∧rE N0∧rE N0∧rE N0∧rE N0∧rE N0∧True)))))):=by kernel_rfl
end Go.Proofs.Ytpdcajchppoocaa
