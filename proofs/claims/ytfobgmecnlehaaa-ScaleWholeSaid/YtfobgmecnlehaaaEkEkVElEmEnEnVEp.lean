import Derived.Test.YtfobgmecnlehaaaEhEiEiVEj
import Derived.Test.YtfobgmecnlehaaaDcDcVDdDeDg
set_option linter.unusedVariables false
set_option linter.unusedSimpArgs false
namespace Go.Proofs.Ytfobgmecnlehaaa
open Go Go.Lg
attribute [local irreducible] bodyH funS
def pyOf:SV→Pay
 | .agg [.int _ a,.int _ b,.int _ c,.int _ d,.int _ e,.int _ f]=>⟨a,b,c,d,e,f⟩
 | _=>zP
def pyF (f:Nat→SV) (i:Nat):Pay:=pyOf (f i)
def eqP (m:Nat) (p q:Nat→Pay):Prop:=∀ i,i<m→p i=q i
noncomputable def ckM (a:Act) (n:Nat) (f:Nat→Yr) (m:Nat) (p:Nat→Pay):Nat:=mtJ p (pyJ a f) (min m n)
noncomputable def ckE (a:Act) (n:Nat) (f:Nat→Yr) (m:Nat) (p:Nat→Pay):Int:=if erA a n f=0 then (if ckM a n f m p<min m n then 11 else if m<n then 4 else if n<m then 11 else 0) else erA a n f
noncomputable def ckN (a:Act) (n:Nat) (f:Nat→Yr) (m:Nat) (p:Nat→Pay):Int:=if erA a n f=0 then (ckM a n f m p:Int) else 0
noncomputable def ckR (a:Act) (n:Nat) (f:Nat→Yr) (m:Nat) (p:Nat→Pay):SV:=two (ckN a n f m p) (ckE a n f m p)
noncomputable def ckI (a:Act) (n:Nat) (f:Nat→Yr) (m:Nat) (p:Nat→Pay):ISpecR:={ τ:=Unit,rdt:=fun _ _ k=>k (),rdtOK:=fun _ _ _ h=>⟨(),h⟩,s:=fun _=>{ σ:=Nat,inv:=fun j z=>z=j∧j≤m∧eqP j p (pyJ a f),nr:=4,ms:=fun _ _=>[],t:=mkF 43 [(1,yrL n f),(3,.ptr 0 0 0),(5,.ptr 1 0 0),(6,.ptr 2 0 0),(7,.ptr 3 0 0)],X:=fun _=>mkX [vr 6 a.sv,vr 1 (pyL m p),vr 1 (i6 0),vr 1 (i6 0)],rd:=fun _ _ k=>∃ z,k z,rdOK:=fun _ _ _ h=>h } }
noncomputable def ckG (a:Act) (n:Nat) (f:Nat→Yr) (m:Nat) (p:Nat→Pay):Prop:=funH Try.prog csP noX (ictrs [itC]) noL (oneL 0 (ckI a n f m p)) 18 [a.sv,yrL n f,pyL m p] (ckR a n f m p)
noncomputable def ckC (g:FuncId):Ctr:=⟨g,fun args k=>match args with
 | [.agg [.int .i64 a,.int .i64 b,.int .i64 c,.int .i64 d,.int .i64 e,.int .i64 f],.lst 3 n h,.lst 6 m g]=>SV.lst 3 n h=yrL n (yrF h)∧SV.lst 6 m g=pyL m (pyF g)∧n<1000∧m<1000∧k (ckR ⟨a,b,c,d,e,f⟩ n (yrF h) m (pyF g))
 | _=>False⟩
end Go.Proofs.Ytfobgmecnlehaaa

set_option maxRecDepth 100000
namespace Go.Proofs.Ytfobgmecnlehaaa
open Go Go.Lg
theorem ckG_vc (a:Ytfobgmecnlehaaa.Act) (n:Nat) (f:Nat→Yr) (m:Nat) (p:Nat→Pay):ckG a n f m p =
((0:Nat)<(1:Nat)∧(∀ (i:Nat),i<n→True∧True∧True∧True)∧(SV.lst (3:Nat) n fun i=>(f i).sv)=yrL n (yrF fun i=>(f i).sv)∧n<(1000:Nat)∧(¬erA a n (yrF fun i=>(f i).sv)=(0:Int)→(0:Nat)<(1:Nat)∧(0:Nat)<(1:Nat)∧(0:Int)=ckN a n f m p∧erA a n (yrF fun i=>(f i).sv)=ckE a n f m p∧True)∧(¬¬erA a n (yrF fun i=>(f i).sv)=(0:Int)→(0:Nat)<(1:Nat)∧(∀ (i:Nat),i<n→True∧True∧True∧True)∧(SV.lst (3:Nat) n fun i=>(f i).sv)=yrL n (yrF fun i=>(f i).sv)∧(∀ (i:Nat),i<n→True∧True∧True∧True)∧(SV.lst (3:Nat) n fun i=>(yrF (fun i=>(f i).sv) i).sv)=yrL n (yrF fun i=>(yrF (fun i=>(f i).sv) i).sv)∧okA
a∧okYs n (yrF fun i=>(yrF (fun i=>(f i).sv) i).sv)∧n≤(16:Nat)∧((∀ (i:Nat),i<n→True∧True∧True∧True)∧(True∧True∧True∧True∧True∧True∧True)∧((∀ (i:Nat),i<n→True∧True∧True∧True)∧True)∧∃ (z:Nat),(z=(0:Nat)∧(0:Nat)≤m∧eqP (0:Nat) p (pyJ a f))∧n=n∧(∀ (i:Nat),i<n→rE ((f i).sv.den)∧True∧True∧True∧True)∧rE (0:Nat)∧rE (0:Nat)∧rE (0:Nat)∧rE (0:Nat)∧rE (0:Nat)∧rE (0:Nat)∧rE (0:Nat)∧rE (0:Nat)∧rE (Fn.func (51:FuncId))∧SV.denL a.cells=SV.denL [SV.int IntKind.i64 a.pr,SV.int IntKind.i64 a.dv,SV.int IntKind.i64 a.st,SV.int IntKind.i64 a.gn,SV.int IntKind.i64 a.mo,SV.int IntKind.i64 a.ba]∧(True∧True∧True∧True∧True∧True∧True)∧SV.denL [yrL n (yrF
fun i=>(f i).sv)]=SV.denL [SV.lst (3:Nat) n fun i=>(yrF (fun i=>(f i).sv) i).sv]∧((∀ (i:Nat),i<n→True∧True∧True∧True)∧True)∧a.1=a.1∧a.2=a.2∧a.3=a.3∧a.4=a.4∧a.5=a.5∧a.6=a.6∧m=m∧(∀ (i:Nat),i<m→rE ((p i).sv.den)∧True∧True∧True∧True∧True∧True∧True)∧rE (0:Int)∧rE (0:Int)∧True)∧(∀ (j:Nat),j<n→∀ (z:Nat),z=j∧j≤m∧eqP j p (pyJ a f)→(0:Nat)<(1:Nat)∧((↑j:Int)=(↑m:Int)→(0:Nat)<(1:Nat)∧(0:Nat)<(1:Nat)∧(↑j:Int)=ckN a n f m p∧(4:Int)=ckE a n f m p∧True)∧(¬(↑j:Int)=(↑m:Int)→(0:Nat)<(1:Nat)∧(0:Int)≤(↑j:Int)∧(↑j:Int)<(↑m:Int)∧(0:Nat)<(1:Nat)∧(¬((p (↑j:Int).toNat).1=rtA a (f j).1∧(p (↑j:Int).toNat).2=duA a (yrF (fun i=>(yrF (fun i=>(f i).sv) i).sv) j)∧(p (↑j:Int).toNat).3=pdA a (stJ a (yrF fun i=>(yrF (fun i=>(f i).sv) i).sv) j) (yrF (fun i=>(yrF (fun i=>(f i).sv) i).sv) j)∧(p (↑j:Int).toNat).4=arS a (stJ a (yrF fun i=>(yrF (fun i=>(f i).sv) i).sv) j) (yrF (fun i=>(yrF (fun i=>(f i).sv) i).sv) j)∧(p (↑j:Int).toNat).5=nB a (stJ a (yrF fun i=>(yrF (fun i=>(f i).sv) i).sv) j) (yrF (fun i=>(yrF (fun i=>(f i).sv) i).sv) j)∧(p (↑j:Int).toNat).6=(stJ a (yrF fun i
=> (yrF (fun i=>(f i).sv) i).sv) j).1+(f j).3 - pdA a (stJ a (yrF fun i=>(yrF (fun i=>(f i).sv) i).sv) j) (yrF (fun i=>(yrF (fun i=>(f i).sv) i).sv) j) - nB a (stJ a (yrF fun i=>(yrF (fun i=>(f i).sv) i).sv) j) (yrF (fun i=>(yrF (fun i=>(f i).sv) i).sv) j)∧True)→(0:Nat)<(1:Nat)∧(0:Nat)<(1:Nat)∧(↑j:Int)=ckN a n f m p∧(11:Int)=ckE a n f m p∧True)∧(¬¬((p (↑j:Int).toNat).1=rtA a (f j).1∧(p (↑j:Int).toNat).2=duA a (yrF (fun i=>(yrF (fun i=>(f i).sv) i).sv) j)∧(p (↑j:Int).toNat).3=pdA
a (stJ a (yrF fun i=>(yrF (fun i=>(f i).sv) i).sv) j) (yrF (fun i=>(yrF (fun i=>(f i).sv) i).sv) j)∧(p (↑j:Int).toNat).4=arS a (stJ a (yrF fun i=>(yrF (fun i=>(f i).sv) i).sv) j) (yrF (fun i=>(yrF (fun i=>(f i).sv) i).sv) j)∧(p (↑j:Int).toNat).5=nB a (stJ a (yrF fun i=>(yrF (fun i=>(f i).sv) i).sv) j) (yrF (fun i=>(yrF (fun i=>(f i).sv) i).sv) j)∧(p (↑j:Int).toNat).6=(stJ a (yrF fun i=>(yrF (fun i=>(f i).sv) i).sv) j).1+(f j).3 - pdA a (stJ a (yrF fun i=>(yrF (fun i=>(f i).sv) i).sv) j) (yrF (fun i=>(yrF (fun i=>(f i).sv) i).sv) j) - nB a (stJ a (yrF fun i=>(yrF (fun i=>(f i).sv) i).sv) j) (yrF (fun i=>(yrF (fun i=>(f i).sv) i).sv) j)∧True)→∃ (z:Nat),(z=j.succ∧j.succ≤m∧eqP j.succ p (pyJ a f))∧a.1=a.1∧a.2=a.2∧a.3=a.3∧a.4=a.4∧a.5=a.5∧a.6=a.6∧m=m∧(∀ (i:Nat),i<m→rE ((p i).sv.den)∧True∧True∧True∧True∧True∧True∧True)∧rE (0:Int)∧rE (0:Int)∧True)))∧∀ (z:Nat),z=n∧n≤m∧eqP n p (pyJ a f)→(0:Nat)<(1:Nat)∧((↑n:Int)<(↑m:Int)→(0:Nat)<(1:Nat)∧(0:Nat)<(1:Nat)∧(↑n:Int)=ckN a n f m p∧(11:Int)=ckE a n f m p ∧
True)∧(¬(↑n:Int)<(↑m:Int)→(0:Nat)<(1:Nat)∧(0:Nat)<(1:Nat)∧(↑n:Int)=ckN a n f m p∧(0:Int)=ckE a n f m p∧True))):=by kernel_rfl
end Go.Proofs.Ytfobgmecnlehaaa

set_option maxRecDepth 100000
namespace Go.Proofs.Ytfobgmecnlehaaa
open Go Go.Lg
attribute [local irreducible] funS bodyH
theorem mt_spec (p q:Nat→Pay):∀ K,mtJ p q K≤K∧eqP (mtJ p q K) p q∧(mtJ p q K<K→p (mtJ p q K)≠q (mtJ p q K))
 | 0=>⟨Nat.le_refl _,fun i hi=>by have hi:i<0:=hi; omega,fun h=>by have h:(0:Nat)<0:=h; omega⟩
 | k+1=>by
  obtain ⟨h1,h2,h3⟩:=mt_spec p q k
  unfold mtJ
  by_cases h:mtJ p q k<k
  ·rw [if_pos h]
   exact ⟨by omega,h2,fun _=>h3 h⟩
  ·rw [if_neg h]
   have e:mtJ p q k=k:=by omega
   rw [e] at h2
   by_cases hh:p k=q k
   ·rw [if_pos hh]
    refine ⟨Nat.le_refl _,fun i hi=>?_,fun h=>by omega⟩
    by_cases hi':i<k
    ·exact h2 i hi'
    ·have:i=k:=by omega
     subst this; exact hh
   ·rw [if_neg hh]
    exact ⟨by omega,h2,fun _=>hh⟩
theorem mt_is {p q:Nat→Pay} {K c:Nat} (h1:c≤K) (h2:eqP c p q) (h3:c<K→p c≠q c):mtJ p q K=c:=by
 obtain ⟨a1,a2,a3⟩:=mt_spec p q K
 rcases Nat.lt_trichotomy (mtJ p q K) c with h | h | h
 ·exact absurd (h2 _ h) (a3 (by omega))
 ·exact h
 ·exact absurd (a2 _ h) (h3 (by omega))
theorem ck_e {a:Act} {n:Nat} {f:Nat→Yr} {m:Nat} {p:Nat→Pay} (h:erA a n f≠0):ckN a n f m p=0∧ckE a n f m p=erA a n f:=by
 unfold ckN ckE
 rw [if_neg h,if_neg h]; exact ⟨rfl,rfl⟩
theorem ck_is {a:Act} {n:Nat} {f:Nat→Yr} {m:Nat} {p:Nat→Pay} {c:Nat} (h:erA a n f=0) (h1:c≤m) (h0:c≤n) (h2:eqP c p (pyJ a f)) (h3:c<min m n→p c≠pyJ a f c) :
  ckN a n f m p=c∧ckE a n f m p=if c<min m n then 11 else if m<n then 4 else if n<m then 11 else 0:=by
 have e:ckM a n f m p=c:=mt_is (by omega) h2 h3
 unfold ckN ckE
 rw [if_pos h,if_pos h,e]; exact ⟨rfl,rfl⟩
theorem pay_iff (a:Act) (f:Nat→Yr) (j:Nat) (x:Pay):(x.rt=rtA a (f j).pr∧x.du=duA a (f j)∧x.pd=pdA a (stJ a f j) (f j)∧x.ar=arS a (stJ a f j) (f j)∧x.rs=nB a (stJ a f j) (f j)∧x.rb=(stJ a f j).ba+(f j).pf - pdA a (stJ a f j) (f j) - nB a (stJ a f j) (f j))↔x=pyJ a f j:=by
 obtain ⟨x1,x2,x3,x4,x5,x6⟩:=x
 constructor
 ·rintro ⟨h1,h2,h3,h4,h5,h6⟩
  simp only at h1 h2 h3 h4 h5 h6
  subst h1 h2 h3 h4 h5 h6; rfl
 ·intro h
  unfold pyJ py at h
  injection h with h1 h2 h3 h4 h5 h6
  exact ⟨h1,h2,h3,h4,h5,h6⟩
theorem pay_ext (x y:Pay):(x.rt=y.rt∧x.du=y.du∧x.pd=y.pd∧x.ar=y.ar∧x.rs=y.rs∧x.rb=y.rb)↔x=y:=by
 obtain ⟨x1,x2,x3,x4,x5,x6⟩:=x
 obtain ⟨y1,y2,y3,y4,y5,y6⟩:=y
 constructor
 ·rintro ⟨h1,h2,h3,h4,h5,h6⟩
  simp only at h1 h2 h3 h4 h5 h6
  subst h1 h2 h3 h4 h5 h6; rfl
 ·intro h
  injection h with h1 h2 h3 h4 h5 h6
  exact ⟨h1,h2,h3,h4,h5,h6⟩
theorem eqP_up {m:Nat} {p q:Nat→Pay} (h:eqP m p q) (h2:p m=q m):eqP (m+1) p q:=fun i hi=>by
 by_cases e:i<m
 ·exact h i e
 ·have:i=m:=by omega
  subst this; exact h2
theorem ck_true (a:Act) (n:Nat) (f:Nat→Yr) (m:Nat) (p:Nat→Pay) (hn:n<1000):ckG a n f m p:=by
 rw [ckG_vc]
 simp only [rI,rE,and_true,true_and,Nat.zero_lt_one,and_self,implies_true,a_fold,yr_fold,yrF_fold,yrF2,yrF1,Classical.not_not,Nat.add_zero,Nat.zero_add,Int.toNat_natCast,pay_iff]
 refine ⟨rfl,hn,fun h=>by obtain ⟨e1,e2⟩:=ck_e (m:=m) (p:=p) h; omega,fun h=>⟨rfl,rfl,?_⟩⟩
 obtain ⟨h1,h2,h3⟩:=erA_0 h
 refine ⟨h1,h3,h2,⟨0,⟨rfl,by omega,fun i hi=>by omega⟩,rfl,rfl⟩,fun j hj z ⟨hz,hjm,hq⟩=>⟨fun he=>?_,fun he=>⟨by omega,by omega,fun hc=>?_,fun hc=>⟨j+1,rfl,by omega,eqP_up hq hc⟩⟩⟩,fun z ⟨hz,hm,hq⟩=>⟨fun hl=>?_,fun hl=>?_⟩⟩
 ·obtain ⟨e1,e2⟩:=ck_is (m:=m) (p:=p) (c:=j) h hjm (by omega) hq (fun h=>by omega)
  rw [e1,e2,if_neg (by omega),if_pos (by omega)]; exact ⟨rfl,rfl⟩
 ·obtain ⟨e1,e2⟩:=ck_is (m:=m) (p:=p) (c:=j) h hjm (by omega) hq (fun _=>hc)
  rw [e1,e2,if_pos (by omega)]; exact ⟨rfl,rfl⟩
 ·obtain ⟨e1,e2⟩:=ck_is (m:=m) (p:=p) (c:=n) h hm (by omega) hq (fun h=>by omega)
  rw [e1,e2,if_neg (by omega),if_neg (by omega),if_pos (by omega)]; exact ⟨rfl,rfl⟩
 ·obtain ⟨e1,e2⟩:=ck_is (m:=m) (p:=p) (c:=n) h hm (by omega) hq (fun h=>by omega)
  rw [e1,e2,if_neg (by omega),if_neg (by omega),if_neg (by omega)]; exact ⟨rfl,rfl⟩
theorem ckX_ok {g:FuncId} (hc:callable Try.prog g=true) (h:∀ (a:Act) (n:Nat) (f:Nat→Yr) (m:Nat) (p:Nat→Pay),n<1000→m<1000→Does Try.prog g true (SV.denL [a.sv,yrL n f,pyL m p]) (ckR a n f m p).den):(ckC g).Ok Try.prog:=by
 refine ⟨hc,fun x k hk=>?_⟩
 simp only [ckC] at hk
 split at hk
 ·rename_i a b c d e f n h0 m g0
  obtain ⟨hf,hg,hn,hm,hk⟩:=hk
  have hh:=h ⟨a,b,c,d,e,f⟩ n (yrF h0) m (pyF g0) hn hm
  rw [← hf,← hg] at hh
  exact ⟨_,hh,hk⟩
 ·exact hk.elim
theorem ck_ok:(ckC 18).Ok Try.prog:=ckX_ok (by kernel_rfl) fun a n f m p hn _=>plainD csP_sound nilS_x it_ic (ck_true a n f m p hn) (two_plain _ _)
end Go.Proofs.Ytfobgmecnlehaaa

set_option maxRecDepth 100000
namespace Go.Proofs.Ytfobgmecnlehaaa
open Go Go.Lg
attribute [local irreducible] funS bodyH
end Go.Proofs.Ytfobgmecnlehaaa

namespace Go.Proofs.Ytfobgmecnlehaaa
open Go Go.Lg
attribute [local irreducible] bodyH funS
end Go.Proofs.Ytfobgmecnlehaaa

set_option maxRecDepth 100000
namespace Go.Proofs.Ytfobgmecnlehaaa
open Go Go.Lg
end Go.Proofs.Ytfobgmecnlehaaa

set_option maxRecDepth 100000
namespace Go.Proofs.Ytfobgmecnlehaaa
open Go Go.Lg
attribute [local irreducible] funS bodyH
theorem pyF1 (g:Nat→Pay):(pyF fun i=>(g i).sv)=g:=rfl
end Go.Proofs.Ytfobgmecnlehaaa
