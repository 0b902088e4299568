import Derived.Test.YtpdcajchppoocaaXa1XaV1Xa2Xa3XaV3XaV4
set_option linter.unusedVariables false
set_option linter.unusedSimpArgs false
set_option maxRecDepth 100000
namespace Go.Proofs.Ytpdcajchppoocaa
open Go Go.Lg
attribute [local irreducible] bodyH
structure okB (T:Tn) (x:Bx):Prop where
 b:0≤x.b∧x.b<T.nb
 r:0≤x.r∧x.r≤T.rv
 f:0≤x.f∧x.f≤T.rm x.b.toNat - T.we*x.r
structure okQ (T:Tn) (s:Rs):Prop where
 n:s.n+s.m=T.nb
 S:∀ i,i<s.n→okB T (s.S i)
 O:∀ i,i<s.m→okB T (s.O i)
theorem cb_le1 (s:Rs) (h:Int):cbQ s h≤1∧cbQ s h≤s.m:=by
 unfold cbQ
 split
 ·rename_i hc; omega
 ·omega
theorem s1_ok {T:Tn} {s:Rs} (hs:okQ T s) {h:Int} {i:Nat} (hi:i<s.n+cbQ s h):okB T (S1 s i):=by
 have c:=cb_le1 s h
 unfold S1
 split
 ·rename_i hc; exact hs.S i hc
 ·exact hs.O 0 (by omega)
theorem o1_ok {T:Tn} {s:Rs} (hs:okQ T s) {h:Int} {i:Nat} (hi:i<s.m - cbQ s h):okB T (O1 s h i):=hs.O _ (by omega)
theorem wtf_ok {T:Tn} {s:Rs} (hs:okQ T s) (h:Int):okQ T (wtQ T s h false) :=
 ⟨by have:=cb_le1 s h; have:=hs.n; show s.n+cbQ s h+(s.m - cbQ s h)=_; omega,fun i hi=>s1_ok hs hi,fun i hi=>o1_ok hs hi⟩
theorem wtt_ok {T:Tn} (hT:okT T) {s:Rs} (hs:okQ T s) (h:Int) (h2:2≤s.n+cbQ s h):okQ T (wtQ T s h true):=by
 refine ⟨by have:=cb_le1 s h; have:=hs.n; show s.n+cbQ s h - 1+(s.m - cbQ s h+1)=_; omega,fun i hi=>s1_ok (h:=h) hs (by have:i<s.n+cbQ s h - 1:=hi; omega),fun i hi=>?_⟩
 show okB T (if i<s.m - cbQ s h then O1 s h i else _)
 split
 ·rename_i hc; exact o1_ok hs hc
 ·have hb:=s1_ok (h:=h) hs (i:=0) (by omega)
  have hr:=hb.r
  have bb:=hb.b
  refine ⟨hb.b,?_,?_⟩
  ·show 0≤(if (S1 s 0).r<T.rv then (S1 s 0).r+1 else 0)∧(if (S1 s 0).r<T.rv then (S1 s 0).r+1 else 0)≤T.rv
   split <;> omega
  ·have hx:=hT.bx (S1 s 0).b.toNat (by omega)
   have hm:0≤(if (S1 s 0).r<T.rv then (S1 s 0).r+1 else 0)∧(if (S1 s 0).r<T.rv then (S1 s 0).r+1 else 0)≤T.rv:=by split <;> omega
   have hm2:=mul_in hT hm
   show (0:Int)≤0∧(0:Int)≤T.rm (S1 s 0).b.toNat - T.we*(if (S1 s 0).r<T.rv then (S1 s 0).r+1 else 0)
   omega
theorem lvq_in {T:Tn} (hT:okT T) {s:Rs} (hs:okQ T s) {a:Int} (ha:0≤a):∀ j,j≤s.n→0≤lvQ T s a j∧lvQ T s a j≤a
 | 0,_=>⟨ha,Int.le_refl _⟩
 | j+1,hj=>by
  have ih:=lvq_in hT hs ha j (by omega)
  have hb:=hs.S j (by omega)
  have hx:=hT.bx (s.S j).b.toNat (by have:=hb.b; omega)
  have hf:=hb.f
  rw [lvQ]
  omega
theorem tkq_in {T:Tn} (hT:okT T) {s:Rs} (hs:okQ T s) {a:Int} (ha:0≤a) {j:Nat} (hj:j<s.n):0≤tkQ T s a j∧tkQ T s a j≤a∧(s.S j).f+tkQ T s a j≤T.rm (s.S j).b.toNat - T.we*(s.S j).r:=by
 have ih:=lvq_in hT hs ha j (by omega)
 have hb:=hs.S j hj
 have hx:=hT.bx (s.S j).b.toNat (by have:=hb.b; omega)
 have hf:=hb.f
 unfold tkQ
 omega
end Go.Proofs.Ytpdcajchppoocaa

set_option maxRecDepth 100000
namespace Go.Proofs.Ytpdcajchppoocaa
open Go Go.Lg
attribute [local irreducible] bodyH
theorem cb_one {s:Rs} {h:Int} (h0:0<s.m) (hk:(s.O 0).k=h):cbQ s h=1:=by unfold cbQ; rw [if_pos ⟨h0,hk⟩]
theorem cb_k {s:Rs} {h:Int} (h1:cbQ s h=1):(s.O 0).k=h:=by
 unfold cbQ at h1
 split at h1
 ·rename_i hc; exact hc.2
 ·omega
theorem hof_true {T:Tn} (hT:okT T) {s:Rs} (hs:okQ T s) {h a:Int} (ha:0≤a∧a≤1000000) (hk:∀ j,1≤j→j<s.m→¬ (s.O j).k=h):hof T s h a:=by
 rw [hof_vc]
 simp only [hof0,hof1,hof2,hof3,hof4,hof5,hof6,hof7,hof8,hof9,hof10,rI,rE,tt3,tt4,tt5,tt13,tt14,rI,rE,tt3,tt4,tt5,tt13,tt14,and_true,true_and,Nat.zero_lt_one,and_self,implies_true,Int.toNat_natCast,Nat.zero_add,Nat.add_zero,Nat.one_mul,Nat.mul_one,Classical.not_not,iff_self,Bool.false_eq_true,imp_false,and_imp,true_implies,forall_const]
 have hq:=wtf_ok hs h
 have hnb:=hT.nb
 have hnm:=hs.n
 have hc1:=cb_le1 s h
 have I:∀ z,z≤s.m→hoI s h z:=fun z hz=>⟨hz,by omega,by omega,hk⟩
 have nq:∀ z,nQ s h z=s.n+min z (cbQ s h):=fun z=>rfl
 have S1n:∀ i,i<s.n→S1 s i=s.S i:=fun i hi=>by unfold S1; rw [if_pos hi]
 have S1o:∀ i,¬ i<s.n→S1 s i=s.O 0:=fun i hi=>by unfold S1; rw [if_neg hi]
 refine ⟨⟨by omega,by omega,0,fun i hi=>by simp⟩,⟨0,⟨I 0 (by omega),by omega⟩,rfl,by rw [nq]; omega,by rw [nq]; omega,fun i hi=>?_⟩,fun z hz hzc=>⟨fun hl=>⟨by omega,hl,fun he=>?_,fun he=>?_⟩,fun hl=>?_⟩,fun z hz hzc=>⟨fun hl=>⟨by omega,hl,fun he=>?_,fun he=>?_⟩,fun hl=>?_⟩⟩
 ·rw [nq] at hi
  rw [S1n i (by omega)]
  exact ⟨rfl,rfl,rfl,rfl⟩
 ·have z0:z=0:=by
   rcases Nat.eq_zero_or_pos z with e | e
   ·exact e
   ·exact absurd he (hk z e (by omega))
  subst z0
  have c1:=cb_one (by omega) he
  have n0:=nq 0
  have n1:=nq 1
  refine ⟨by omega,hl,by omega,by omega,by omega,1,⟨I 1 (by omega),by omega⟩,by omega,by omega,by omega,by omega,fun i hi=>?_⟩
  by_cases e:i<nQ s h 0
  ·simp only [if_pos e,and_self]
  ·simp only [if_neg e]
   rw [S1o i (by omega)]
   exact ⟨rfl,rfl,rfl,rfl⟩
 ·have zc:z=cbQ s h:=by
   rcases Nat.eq_zero_or_pos z with e | e
   ·subst e
    rcases Nat.eq_zero_or_pos (cbQ s h) with e | e
    ·exact e.symm
    ·exact absurd (cb_k (by omega)) he
   ·omega
  have n0:=nq z
  have n1:=nq (z+1)
  refine ⟨by omega,hl,by omega,by omega,by omega,z+1,⟨I (z+1) (by omega),by omega⟩,by omega,by omega,by omega,by omega,by omega,by omega,fun i hi=>?_⟩
  obtain rfl:i=0:=by omega
  have:O1 s h 0=s.O z:=by unfold O1; rw [zc,Nat.zero_add]
  rw [this]
  exact ⟨rfl,rfl,rfl,rfl⟩
 ·refine ⟨⟨0,⟨Nat.zero_le _⟩,rfl,rfl,by rw [nq]; omega,by omega,by rw [nq]; omega,fun i hi=>⟨rfl,by rw [if_neg (Nat.not_lt_zero i)]; rfl,rfl,rfl⟩⟩,fun j hj=>⟨fun hl=>?_,fun hl=>?_⟩⟩
  ·have hjl:j<(wtQ T s h false).n:=by show j<s.n+cbQ s h; omega
   have e0:ofQ false+j=j:=Nat.zero_add j
   have e1:(hcQ T s h false a j j).b=((wtQ T s h false).S j).b:=rfl
   have hb:=hq.S j hjl
   have hx:=hT.bx ((wtQ T s h false).S j).b.toNat (by have:=hb.b; omega)
   have hf:=hb.f
   have hbb:=hb.b
   have hm:=mul_in hT hb.r
   have hlv:=lvq_in hT hq ha.1 j (by omega)
   have htk:=tkq_in hT hq ha.1 hjl
   have hnn:s.n+cbQ s h≤10:=by have:=hs.n; have:=hT.nb; have:=cb_le1 s h; omega
   rw [e0]
   simp only [e1,Nat.lt_irrefl,if_false]
   have et:min (min (lvQ T (wtQ T s h false) a j) (T.rt ((wtQ T s h false).S j).b.toNat)) (T.rm ((wtQ T s h false).S j).b.toNat - T.we*((wtQ T s h false).S j).r - ((wtQ T s h false).S j).f)=tkQ T (wtQ T s h false) a j:=rfl
   rw [et]
   refine ⟨by omega,hl,hjl,hbb.1,hbb.2,by omega,by omega,⟨by omega,by omega,by omega,hl,by omega,hjl,by omega,by omega,j+1,⟨hjl⟩,by omega,rfl,by omega,fun i hi=>⟨by split <;> rfl,?_,by split <;> rfl,by split <;> rfl⟩⟩⟩
   by_cases e:i=j
   ·subst e; rw [if_pos rfl,if_pos (Nat.lt_succ_self i)]
   ·rw [if_neg e]
    by_cases e2:i<j
    ·rw [if_pos e2,if_pos (by omega)]
    ·rw [if_neg e2,if_neg (by omega)]
  ·have hje:j=s.n+cbQ s h:=by have:=hj.a; have:(wtQ T s h false).n=s.n+cbQ s h:=rfl; omega
   subst hje
   exact ⟨Nat.le_refl _,fun i hi=>⟨rfl,by rw [if_pos hi,if_pos hi]; rfl,rfl,rfl⟩,rfl⟩
 ·exact absurd he (hk z (by omega) (by omega))
 ·have n0:=nq z
  have n1:=nq (z+1)
  refine ⟨by omega,hl,by omega,by omega,by omega,z+1,⟨I (z+1) (by omega),by omega⟩,by omega,by omega,by omega,by omega,by omega,by omega,fun i hi=>?_⟩
  by_cases e:i<z - cbQ s h
  ·simp only [if_pos e,and_self]
  ·simp only [if_neg e]
   have:O1 s h i=s.O z:=by unfold O1; rw [show i+cbQ s h=z by omega]
   rw [this]
   exact ⟨rfl,rfl,rfl,rfl⟩
 ·refine ⟨⟨0,⟨Nat.zero_le _⟩,rfl,rfl,by rw [nq]; have:=hz.a; omega,by have:=hz.a; omega,Nat.le_refl _,fun i hi=>rfl,by rw [nq]; have:=hz.a; omega,fun i hi=>⟨rfl,by rw [if_neg (Nat.not_lt_zero i)]; rfl,rfl,rfl⟩⟩,fun j hj=>⟨fun hl=>?_,fun hl=>?_⟩⟩
  ·have hjl:j<(wtQ T s h false).n:=by show j<s.n+cbQ s h; omega
   have e0:ofQ false+j=j:=Nat.zero_add j
   have e1:(hcQ T s h false a j j).b=((wtQ T s h false).S j).b:=rfl
   have hb:=hq.S j hjl
   have hx:=hT.bx ((wtQ T s h false).S j).b.toNat (by have:=hb.b; omega)
   have hf:=hb.f
   have hbb:=hb.b
   have hm:=mul_in hT hb.r
   have hlv:=lvq_in hT hq ha.1 j (by omega)
   have htk:=tkq_in hT hq ha.1 hjl
   have hnn:s.n+cbQ s h≤10:=by have:=hs.n; have:=hT.nb; have:=cb_le1 s h; omega
   rw [e0]
   simp only [e1,Nat.lt_irrefl,if_false]
   have et:min (min (lvQ T (wtQ T s h false) a j) (T.rt ((wtQ T s h false).S j).b.toNat)) (T.rm ((wtQ T s h false).S j).b.toNat - T.we*((wtQ T s h false).S j).r - ((wtQ T s h false).S j).f)=tkQ T (wtQ T s h false) a j:=rfl
   rw [et]
   refine ⟨by omega,hl,hjl,hbb.1,hbb.2,by omega,by omega,⟨by omega,by omega,by omega,hl,by omega,hjl,by omega,by omega,j+1,⟨hjl⟩,by omega,rfl,by omega,fun i hi=>⟨by split <;> rfl,?_,by split <;> rfl,by split <;> rfl⟩⟩⟩
   by_cases e:i=j
   ·subst e; rw [if_pos rfl,if_pos (Nat.lt_succ_self i)]
   ·rw [if_neg e]
    by_cases e2:i<j
    ·rw [if_pos e2,if_pos (by omega)]
    ·rw [if_neg e2,if_neg (by omega)]
  ·have hje:j=s.n+cbQ s h:=by have:=hj.a; have:(wtQ T s h false).n=s.n+cbQ s h:=rfl; omega
   subst hje
   exact ⟨Nat.le_refl _,fun i hi=>⟨rfl,by rw [if_pos hi,if_pos hi]; rfl,rfl,rfl⟩,rfl⟩
end Go.Proofs.Ytpdcajchppoocaa

set_option maxRecDepth 100000
namespace Go.Proofs.Ytpdcajchppoocaa
open Go Go.Lg
attribute [local irreducible] bodyH
theorem app_at {S N n i:Nat} {f g:Nat→SV} (h:selOK (f i) (g (i - n))=true):((rowsK S N (appF n f g)).f i).den=if i<n then (f i).den else (g (i - n)).den:=sel_den _ _ _ _ h
theorem hot_true {T:Tn} (hT:okT T) {s:Rs} (hs:okQ T s) {h a:Int} (ha:0≤a∧a≤1000000) (hk:∀ j,1≤j→j<s.m→¬ (s.O j).k=h) (hh:0≤h∧h≤1000) (hcs:0≤s.c∧s.c≤1000000) (h2n:2≤s.n+cbQ s h):hot T s h a:=by
 rw [hot_vc]
 simp only [hot0,hot1,hot2,hot3,hot4,hot5,hot6,hot7,hot8,hot9,hot10,hot11,hot12,rI,rE,tt3,tt4,tt5,tt13,tt14,rI,rE,tt3,tt4,tt5,tt13,tt14,and_true,true_and,Nat.zero_lt_one,and_self,implies_true,Int.toNat_natCast,Nat.zero_add,Nat.add_zero,Nat.one_mul,Nat.mul_one,Classical.not_not,iff_self,Bool.false_eq_true,imp_false,and_imp,true_implies,forall_const]
 have hq:=wtt_ok hT hs h h2n
 have hre:=hT.re
 have hwo:=hT.wo
 have hti:=hT.ti
 have hrv:=hT.rv
 have hc_0:∀ i,(hcQ T s h true a 0 i).b=(S1 s i).b∧(hcQ T s h true a 0 i).f=(S1 s i).f∧(hcQ T s h true a 0 i).r=(S1 s i).r∧(hcQ T s h true a 0 i).k=(S1 s i).k:=fun i=>by
  cases i with
  | zero=>exact ⟨rfl,rfl,rfl,rfl⟩
  | succ i=>exact ⟨rfl,rfl,rfl,rfl⟩
 have hc_e:∀ {j k:Nat} (i:Nat),(hcQ T s h true a j i).b=(hcQ T s h true a k i).b∧(hcQ T s h true a j i).r=(hcQ T s h true a k i).r∧(hcQ T s h true a j i).k=(hcQ T s h true a k i).k:=fun i=>by
  cases i with
  | zero=>exact ⟨rfl,rfl,rfl⟩
  | succ i=>exact ⟨rfl,rfl,rfl⟩
 have hnb:=hT.nb
 have hnm:=hs.n
 have hc1:=cb_le1 s h
 have I:∀ z,z≤s.m→hoI s h z:=fun z hz=>⟨hz,by omega,by omega,hk⟩
 have nq:∀ z,nQ s h z=s.n+min z (cbQ s h):=fun z=>rfl
 have S1n:∀ i,i<s.n→S1 s i=s.S i:=fun i hi=>by unfold S1; rw [if_pos hi]
 have S1o:∀ i,¬ i<s.n→S1 s i=s.O 0:=fun i hi=>by unfold S1; rw [if_neg hi]
 refine ⟨⟨by omega,by omega,0,fun i hi=>by simp⟩,⟨0,⟨I 0 (by omega),by omega⟩,rfl,by rw [nq]; omega,by rw [nq]; omega,fun i hi=>?_⟩,fun z hz hzc=>⟨fun hl=>⟨by omega,hl,fun he=>?_,fun he=>?_⟩,fun hl=>?_⟩,fun z hz hzc=>⟨fun hl=>⟨by omega,hl,fun he=>?_,fun he=>?_⟩,fun hl=>?_⟩⟩
 ·rw [nq] at hi
  rw [S1n i (by omega)]
  exact ⟨rfl,rfl,rfl,rfl⟩
 ·have z0:z=0:=by
   rcases Nat.eq_zero_or_pos z with e | e
   ·exact e
   ·exact absurd he (hk z e (by omega))
  subst z0
  have c1:=cb_one (by omega) he
  have n0:=nq 0
  have n1:=nq 1
  refine ⟨by omega,hl,by omega,by omega,by omega,1,⟨I 1 (by omega),by omega⟩,by omega,by omega,by omega,by omega,fun i hi=>?_⟩
  by_cases e:i<nQ s h 0
  ·simp only [if_pos e,and_self]
  ·simp only [if_neg e]
   rw [S1o i (by omega)]
   exact ⟨rfl,rfl,rfl,rfl⟩
 ·have zc:z=cbQ s h:=by
   rcases Nat.eq_zero_or_pos z with e | e
   ·subst e
    rcases Nat.eq_zero_or_pos (cbQ s h) with e | e
    ·exact e.symm
    ·exact absurd (cb_k (by omega)) he
   ·omega
  have n0:=nq z
  have n1:=nq (z+1)
  refine ⟨by omega,hl,by omega,by omega,by omega,z+1,⟨I (z+1) (by omega),by omega⟩,by omega,by omega,by omega,by omega,by omega,by omega,fun i hi=>?_⟩
  obtain rfl:i=0:=by omega
  have:O1 s h 0=s.O z:=by unfold O1; rw [zc,Nat.zero_add]
  rw [this]
  exact ⟨rfl,rfl,rfl,rfl⟩
 ·have n0:=nq z
  have ha0:=hz.a
  have hb0:=(s1_ok (h:=h) hs (i:=0) (by omega)).r
  refine ⟨fun h2=>by omega,fun h2=>⟨by omega,by omega,by show 0<nQ s h z; omega,by omega,fun hr=>?_,fun hr=>?_⟩⟩
  ·have hr:(S1 s 0).r<T.rv:=hr
   refine ⟨by show _≤(S1 s 0).r+1∧(S1 s 0).r+1≤_; omega,by omega,by omega,by omega,Int.le_refl _,by omega,by omega,⟨⟨0,⟨Nat.zero_le _⟩,rfl,rfl,rfl,by rw [nq]; have:=hz.a; omega,by have:=hz.a; omega,Nat.le_refl _,fun i hi=>by
     have eo:(wtQ T s h true).O i=⟨(S1 s 0).b,0,if (S1 s 0).r<T.rv then (S1 s 0).r+1 else 0,h+T.re⟩:=by
      show (if i<_ then _ else _)=_
      rw [if_neg (by omega)]
     rw [eo,if_pos hr]
     obtain rfl:i=0:=by omega
     rfl,by rw [if_pos hr],by rw [nq]; have:=hz.a; omega,fun i hi=>⟨(hc_0 i).1.symm,(hc_0 i).2.1.symm,(hc_0 i).2.2.1.symm,(hc_0 i).2.2.2.symm⟩⟩,fun j hj=>⟨fun hl2=>?_,fun hl2=>?_⟩⟩⟩
   ·have hjl:j<(wtQ T s h true).n:=by show j<s.n+cbQ s h - 1; omega
    have ex:hcQ T s h true a j (ofQ true+j)=psQ T (wtQ T s h true) a j j:=by
     show (if 1+j=0 then S1 s 0 else psQ T (wtQ T s h true) a j (1+j - 1))=_
     rw [if_neg (by omega),show 1+j - 1=j by omega]
    have exb:(hcQ T s h true a j (ofQ true+j)).b=((wtQ T s h true).S j).b:=by rw [ex]; rfl
    have exr:(hcQ T s h true a j (ofQ true+j)).r=((wtQ T s h true).S j).r:=by rw [ex]; rfl
    have exf:(hcQ T s h true a j (ofQ true+j)).f=((wtQ T s h true).S j).f:=by
     rw [ex]
     show (if j<j then _ else _)=_
     rw [if_neg (Nat.lt_irrefl j)]
    have hb:=hq.S j hjl
    have hx:=hT.bx ((wtQ T s h true).S j).b.toNat (by have:=hb.b; omega)
    have hf:=hb.f
    have hbb:=hb.b
    have hm:=mul_in hT hb.r
    have hlv:=lvq_in hT hq ha.1 j (by omega)
    have htk:=tkq_in hT hq ha.1 hjl
    have hnn:s.n+cbQ s h≤10:=by have:=hs.n; have:=hT.nb; have:=cb_le1 s h; omega
    simp only [exb,exr,exf]
    have et:min (min (lvQ T (wtQ T s h true) a j) (T.rt ((wtQ T s h true).S j).b.toNat)) (T.rm ((wtQ T s h true).S j).b.toNat - T.we*((wtQ T s h true).S j).r - ((wtQ T s h true).S j).f)=tkQ T (wtQ T s h true) a j:=rfl
    rw [et]
    refine ⟨by omega,hl2,by omega,hbb.1,hbb.2,by omega,by omega,by omega,by omega,by omega,hl2,by omega,by omega,by omega,by omega,j+1,⟨hjl⟩,by omega,rfl,by omega,fun i hi=>⟨?_,?_,?_,?_⟩⟩
    ·rw [ite_self]; exact (hc_e i).1
    ·by_cases e:i=1+j
     ·rw [if_pos e,e]
      show _=(if 1+j=0 then S1 s 0 else psQ T (wtQ T s h true) a (j+1) (1+j - 1)).f
      rw [if_neg (by omega),show 1+j - 1=j by omega]
      show _=(if j<j+1 then _ else _)
      rw [if_pos (Nat.lt_succ_self j)]
     ·rw [if_neg e]
      show (if i=0 then S1 s 0 else psQ T (wtQ T s h true) a j (i - 1)).f=(if i=0 then S1 s 0 else psQ T (wtQ T s h true) a (j+1) (i - 1)).f
      by_cases e0:i=0
      ·rw [if_pos e0,if_pos e0]
      ·rw [if_neg e0,if_neg e0]
       show (if i - 1<j then _ else _)=(if i - 1<j+1 then _ else _)
       by_cases e2:i - 1<j
       ·rw [if_pos e2,if_pos (by omega)]
       ·rw [if_neg e2,if_neg (by omega)]
    ·rw [ite_self]; exact (hc_e i).2.1
    ·rw [ite_self]; exact (hc_e i).2.2
   ·have hje:j=s.n+cbQ s h - 1:=by have:=hj.a; have:(wtQ T s h true).n=s.n+cbQ s h - 1:=rfl; omega
    subst hje
    exact ⟨Nat.le_refl _,fun i hi=>⟨rfl,by show (if i<_ then _ else _)=_; rw [if_pos hi,if_pos hi]; rfl,rfl,rfl⟩,rfl⟩
  ·have hr:¬ (S1 s 0).r<T.rv:=hr
   refine ⟨by omega,by omega,by omega,Int.le_refl _,by omega,by omega,⟨⟨0,⟨Nat.zero_le _⟩,rfl,rfl,rfl,by rw [nq]; have:=hz.a; omega,by have:=hz.a; omega,Nat.le_refl _,fun i hi=>by
     have eo:(wtQ T s h true).O i=⟨(S1 s 0).b,0,if (S1 s 0).r<T.rv then (S1 s 0).r+1 else 0,h+T.re⟩:=by
      show (if i<_ then _ else _)=_
      rw [if_neg (by omega)]
     rw [eo,if_neg hr]
     obtain rfl:i=0:=by omega
     rfl,by rw [if_neg hr],by rw [nq]; have:=hz.a; omega,fun i hi=>⟨(hc_0 i).1.symm,(hc_0 i).2.1.symm,(hc_0 i).2.2.1.symm,(hc_0 i).2.2.2.symm⟩⟩,fun j hj=>⟨fun hl2=>?_,fun hl2=>?_⟩⟩⟩
   ·have hjl:j<(wtQ T s h true).n:=by show j<s.n+cbQ s h - 1; omega
    have ex:hcQ T s h true a j (ofQ true+j)=psQ T (wtQ T s h true) a j j:=by
     show (if 1+j=0 then S1 s 0 else psQ T (wtQ T s h true) a j (1+j - 1))=_
     rw [if_neg (by omega),show 1+j - 1=j by omega]
    have exb:(hcQ T s h true a j (ofQ true+j)).b=((wtQ T s h true).S j).b:=by rw [ex]; rfl
    have exr:(hcQ T s h true a j (ofQ true+j)).r=((wtQ T s h true).S j).r:=by rw [ex]; rfl
    have exf:(hcQ T s h true a j (ofQ true+j)).f=((wtQ T s h true).S j).f:=by
     rw [ex]
     show (if j<j then _ else _)=_
     rw [if_neg (Nat.lt_irrefl j)]
    have hb:=hq.S j hjl
    have hx:=hT.bx ((wtQ T s h true).S j).b.toNat (by have:=hb.b; omega)
    have hf:=hb.f
    have hbb:=hb.b
    have hm:=mul_in hT hb.r
    have hlv:=lvq_in hT hq ha.1 j (by omega)
    have htk:=tkq_in hT hq ha.1 hjl
    have hnn:s.n+cbQ s h≤10:=by have:=hs.n; have:=hT.nb; have:=cb_le1 s h; omega
    simp only [exb,exr,exf]
    have et:min (min (lvQ T (wtQ T s h true) a j) (T.rt ((wtQ T s h true).S j).b.toNat)) (T.rm ((wtQ T s h true).S j).b.toNat - T.we*((wtQ T s h true).S j).r - ((wtQ T s h true).S j).f)=tkQ T (wtQ T s h true) a j:=rfl
    rw [et]
    refine ⟨by omega,hl2,by omega,hbb.1,hbb.2,by omega,by omega,by omega,by omega,by omega,hl2,by omega,by omega,by omega,by omega,j+1,⟨hjl⟩,by omega,rfl,by omega,fun i hi=>⟨?_,?_,?_,?_⟩⟩
    ·rw [ite_self]; exact (hc_e i).1
    ·by_cases e:i=1+j
     ·rw [if_pos e,e]
      show _=(if 1+j=0 then S1 s 0 else psQ T (wtQ T s h true) a (j+1) (1+j - 1)).f
      rw [if_neg (by omega),show 1+j - 1=j by omega]
      show _=(if j<j+1 then _ else _)
      rw [if_pos (Nat.lt_succ_self j)]
     ·rw [if_neg e]
      show (if i=0 then S1 s 0 else psQ T (wtQ T s h true) a j (i - 1)).f=(if i=0 then S1 s 0 else psQ T (wtQ T s h true) a (j+1) (i - 1)).f
      by_cases e0:i=0
      ·rw [if_pos e0,if_pos e0]
      ·rw [if_neg e0,if_neg e0]
       show (if i - 1<j then _ else _)=(if i - 1<j+1 then _ else _)
       by_cases e2:i - 1<j
       ·rw [if_pos e2,if_pos (by omega)]
       ·rw [if_neg e2,if_neg (by omega)]
    ·rw [ite_self]; exact (hc_e i).2.1
    ·rw [ite_self]; exact (hc_e i).2.2
   ·have hje:j=s.n+cbQ s h - 1:=by have:=hj.a; have:(wtQ T s h true).n=s.n+cbQ s h - 1:=rfl; omega
    subst hje
    exact ⟨Nat.le_refl _,fun i hi=>⟨rfl,by show (if i<_ then _ else _)=_; rw [if_pos hi,if_pos hi]; rfl,rfl,rfl⟩,rfl⟩
 ·exact absurd he (hk z (by omega) (by omega))
 ·have n0:=nq z
  have n1:=nq (z+1)
  refine ⟨by omega,hl,by omega,by omega,by omega,z+1,⟨I (z+1) (by omega),by omega⟩,by omega,by omega,by omega,by omega,by omega,by omega,fun i hi=>?_⟩
  by_cases e:i<z - cbQ s h
  ·simp only [if_pos e,and_self]
  ·simp only [if_neg e]
   have:O1 s h i=s.O z:=by unfold O1; rw [show i+cbQ s h=z by omega]
   rw [this]
   exact ⟨rfl,rfl,rfl,rfl⟩
 ·have n0:=nq z
  have ha0:=hz.a
  have hb0:=(s1_ok (h:=h) hs (i:=0) (by omega)).r
  refine ⟨fun h2=>by omega,fun h2=>⟨by omega,by omega,by show 0<nQ s h z; omega,by omega,fun hr=>?_,fun hr=>?_⟩⟩
  ·have hr:(S1 s 0).r<T.rv:=hr
   refine ⟨by show _≤(S1 s 0).r+1∧(S1 s 0).r+1≤_; omega,by omega,by omega,by omega,Int.le_refl _,by omega,by omega,⟨⟨0,⟨Nat.zero_le _⟩,rfl,rfl,rfl,by rw [nq]; have:=hz.a; omega,by have:=hz.a; omega,Nat.le_refl _,fun i hi=>by
     by_cases e:i<s.m - cbQ s h
     ·have eo:(wtQ T s h true).O i=O1 s h i:=by
       show (if i<_ then _ else _)=_
       rw [if_pos e]
      rw [eo]
      rw [app_at (by rw [show i - (z - cbQ s h)=0 by omega]; rfl),if_pos (by omega)]
     ·have eo:(wtQ T s h true).O i=⟨(S1 s 0).b,0,if (S1 s 0).r<T.rv then (S1 s 0).r+1 else 0,h+T.re⟩:=by
       show (if i<_ then _ else _)=_
       rw [if_neg e]
      rw [eo,if_pos hr]
      rw [app_at (by rw [show i - (z - cbQ s h)=0 by omega]; rfl),if_neg (by omega),show i - (z - cbQ s h)=0 by omega]
      rfl,by rw [if_pos hr],by rw [nq]; have:=hz.a; omega,fun i hi=>⟨(hc_0 i).1.symm,(hc_0 i).2.1.symm,(hc_0 i).2.2.1.symm,(hc_0 i).2.2.2.symm⟩⟩,fun j hj=>⟨fun hl2=>?_,fun hl2=>?_⟩⟩⟩
   ·have hjl:j<(wtQ T s h true).n:=by show j<s.n+cbQ s h - 1; omega
    have ex:hcQ T s h true a j (ofQ true+j)=psQ T (wtQ T s h true) a j j:=by
     show (if 1+j=0 then S1 s 0 else psQ T (wtQ T s h true) a j (1+j - 1))=_
     rw [if_neg (by omega),show 1+j - 1=j by omega]
    have exb:(hcQ T s h true a j (ofQ true+j)).b=((wtQ T s h true).S j).b:=by rw [ex]; rfl
    have exr:(hcQ T s h true a j (ofQ true+j)).r=((wtQ T s h true).S j).r:=by rw [ex]; rfl
    have exf:(hcQ T s h true a j (ofQ true+j)).f=((wtQ T s h true).S j).f:=by
     rw [ex]
     show (if j<j then _ else _)=_
     rw [if_neg (Nat.lt_irrefl j)]
    have hb:=hq.S j hjl
    have hx:=hT.bx ((wtQ T s h true).S j).b.toNat (by have:=hb.b; omega)
    have hf:=hb.f
    have hbb:=hb.b
    have hm:=mul_in hT hb.r
    have hlv:=lvq_in hT hq ha.1 j (by omega)
    have htk:=tkq_in hT hq ha.1 hjl
    have hnn:s.n+cbQ s h≤10:=by have:=hs.n; have:=hT.nb; have:=cb_le1 s h; omega
    simp only [exb,exr,exf]
    have et:min (min (lvQ T (wtQ T s h true) a j) (T.rt ((wtQ T s h true).S j).b.toNat)) (T.rm ((wtQ T s h true).S j).b.toNat - T.we*((wtQ T s h true).S j).r - ((wtQ T s h true).S j).f)=tkQ T (wtQ T s h true) a j:=rfl
    rw [et]
    refine ⟨by omega,hl2,by omega,hbb.1,hbb.2,by omega,by omega,by omega,by omega,by omega,hl2,by omega,by omega,by omega,by omega,j+1,⟨hjl⟩,by omega,rfl,by omega,fun i hi=>⟨?_,?_,?_,?_⟩⟩
    ·rw [ite_self]; exact (hc_e i).1
    ·by_cases e:i=1+j
     ·rw [if_pos e,e]
      show _=(if 1+j=0 then S1 s 0 else psQ T (wtQ T s h true) a (j+1) (1+j - 1)).f
      rw [if_neg (by omega),show 1+j - 1=j by omega]
      show _=(if j<j+1 then _ else _)
      rw [if_pos (Nat.lt_succ_self j)]
     ·rw [if_neg e]
      show (if i=0 then S1 s 0 else psQ T (wtQ T s h true) a j (i - 1)).f=(if i=0 then S1 s 0 else psQ T (wtQ T s h true) a (j+1) (i - 1)).f
      by_cases e0:i=0
      ·rw [if_pos e0,if_pos e0]
      ·rw [if_neg e0,if_neg e0]
       show (if i - 1<j then _ else _)=(if i - 1<j+1 then _ else _)
       by_cases e2:i - 1<j
       ·rw [if_pos e2,if_pos (by omega)]
       ·rw [if_neg e2,if_neg (by omega)]
    ·rw [ite_self]; exact (hc_e i).2.1
    ·rw [ite_self]; exact (hc_e i).2.2
   ·have hje:j=s.n+cbQ s h - 1:=by have:=hj.a; have:(wtQ T s h true).n=s.n+cbQ s h - 1:=rfl; omega
    subst hje
    exact ⟨Nat.le_refl _,fun i hi=>⟨rfl,by show (if i<_ then _ else _)=_; rw [if_pos hi,if_pos hi]; rfl,rfl,rfl⟩,rfl⟩
  ·have hr:¬ (S1 s 0).r<T.rv:=hr
   refine ⟨by omega,by omega,by omega,Int.le_refl _,by omega,by omega,⟨⟨0,⟨Nat.zero_le _⟩,rfl,rfl,rfl,by rw [nq]; have:=hz.a; omega,by have:=hz.a; omega,Nat.le_refl _,fun i hi=>by
     by_cases e:i<s.m - cbQ s h
     ·have eo:(wtQ T s h true).O i=O1 s h i:=by
       show (if i<_ then _ else _)=_
       rw [if_pos e]
      rw [eo]
      rw [app_at (by rw [show i - (z - cbQ s h)=0 by omega]; rfl),if_pos (by omega)]
     ·have eo:(wtQ T s h true).O i=⟨(S1 s 0).b,0,if (S1 s 0).r<T.rv then (S1 s 0).r+1 else 0,h+T.re⟩:=by
       show (if i<_ then _ else _)=_
       rw [if_neg e]
      rw [eo,if_neg hr]
      rw [app_at (by rw [show i - (z - cbQ s h)=0 by omega]; rfl),if_neg (by omega),show i - (z - cbQ s h)=0 by omega]
      rfl,by rw [if_neg hr],by rw [nq]; have:=hz.a; omega,fun i hi=>⟨(hc_0 i).1.symm,(hc_0 i).2.1.symm,(hc_0 i).2.2.1.symm,(hc_0 i).2.2.2.symm⟩⟩,fun j hj=>⟨fun hl2=>?_,fun hl2=>?_⟩⟩⟩
   ·have hjl:j<(wtQ T s h true).n:=by show j<s.n+cbQ s h - 1; omega
    have ex:hcQ T s h true a j (ofQ true+j)=psQ T (wtQ T s h true) a j j:=by
     show (if 1+j=0 then S1 s 0 else psQ T (wtQ T s h true) a j (1+j - 1))=_
     rw [if_neg (by omega),show 1+j - 1=j by omega]
    have exb:(hcQ T s h true a j (ofQ true+j)).b=((wtQ T s h true).S j).b:=by rw [ex]; rfl
    have exr:(hcQ T s h true a j (ofQ true+j)).r=((wtQ T s h true).S j).r:=by rw [ex]; rfl
    have exf:(hcQ T s h true a j (ofQ true+j)).f=((wtQ T s h true).S j).f:=by
     rw [ex]
     show (if j<j then _ else _)=_
     rw [if_neg (Nat.lt_irrefl j)]
    have hb:=hq.S j hjl
    have hx:=hT.bx ((wtQ T s h true).S j).b.toNat (by have:=hb.b; omega)
    have hf:=hb.f
    have hbb:=hb.b
    have hm:=mul_in hT hb.r
    have hlv:=lvq_in hT hq ha.1 j (by omega)
    have htk:=tkq_in hT hq ha.1 hjl
    have hnn:s.n+cbQ s h≤10:=by have:=hs.n; have:=hT.nb; have:=cb_le1 s h; omega
    simp only [exb,exr,exf]
    have et:min (min (lvQ T (wtQ T s h true) a j) (T.rt ((wtQ T s h true).S j).b.toNat)) (T.rm ((wtQ T s h true).S j).b.toNat - T.we*((wtQ T s h true).S j).r - ((wtQ T s h true).S j).f)=tkQ T (wtQ T s h true) a j:=rfl
    rw [et]
    refine ⟨by omega,hl2,by omega,hbb.1,hbb.2,by omega,by omega,by omega,by omega,by omega,hl2,by omega,by omega,by omega,by omega,j+1,⟨hjl⟩,by omega,rfl,by omega,fun i hi=>⟨?_,?_,?_,?_⟩⟩
    ·rw [ite_self]; exact (hc_e i).1
    ·by_cases e:i=1+j
     ·rw [if_pos e,e]
      show _=(if 1+j=0 then S1 s 0 else psQ T (wtQ T s h true) a (j+1) (1+j - 1)).f
      rw [if_neg (by omega),show 1+j - 1=j by omega]
      show _=(if j<j+1 then _ else _)
      rw [if_pos (Nat.lt_succ_self j)]
     ·rw [if_neg e]
      show (if i=0 then S1 s 0 else psQ T (wtQ T s h true) a j (i - 1)).f=(if i=0 then S1 s 0 else psQ T (wtQ T s h true) a (j+1) (i - 1)).f
      by_cases e0:i=0
      ·rw [if_pos e0,if_pos e0]
      ·rw [if_neg e0,if_neg e0]
       show (if i - 1<j then _ else _)=(if i - 1<j+1 then _ else _)
       by_cases e2:i - 1<j
       ·rw [if_pos e2,if_pos (by omega)]
       ·rw [if_neg e2,if_neg (by omega)]
    ·rw [ite_self]; exact (hc_e i).2.1
    ·rw [ite_self]; exact (hc_e i).2.2
   ·have hje:j=s.n+cbQ s h - 1:=by have:=hj.a; have:(wtQ T s h true).n=s.n+cbQ s h - 1:=rfl; omega
    subst hje
    exact ⟨Nat.le_refl _,fun i hi=>⟨rfl,by show (if i<_ then _ else _)=_; rw [if_pos hi,if_pos hi]; rfl,rfl,rfl⟩,rfl⟩
end Go.Proofs.Ytpdcajchppoocaa

set_option maxRecDepth 100000
namespace Go.Proofs.Ytpdcajchppoocaa
open Go Go.Lg
attribute [local irreducible] bodyH
noncomputable def nxQ (T:Tn) (s:Rs) (h:Int) (w:Bool) (a:Int):Rs:=⟨(wtQ T s h w).n,psQ T (wtQ T s h w) a (wtQ T s h w).n,(wtQ T s h w).m,(wtQ T s h w).O,(wtQ T s h w).c⟩
def beQ (T:Tn):Rs:=⟨T.nb,fun i=>⟨i,T.fo i,0,0⟩,0,fun _=>⟨0,0,0,0⟩,0⟩
noncomputable def qA (T:Tn) (w:Nat→Bool) (c:Nat→Int):Nat→Rs
 | 0=>beQ T
 | z+1=>nxQ T (qA T w c z) z (w z) (c z)
noncomputable def slQ (T:Tn) (w:Nat→Bool) (c:Nat→Int) (z:Nat):Int:=lvQ T (wtQ T (qA T w c z) z (w z)) (c z) (wtQ T (qA T w c z) z (w z)).n
def wrQ (T:Tn) (w:Nat→Bool) (c:Nat→Int) (z:Nat):Prop:=w z=true∧(qA T w c z).n+cbQ (qA T w c z) z<2
structure eqQ (T:Tn) (s:St) (r:Rs):Prop where
 n:(r.n:Int)=s.n
 nm:r.n+r.m=T.nb
 S:∀ i,i<r.n→(r.S i).b=s.bx i∧(r.S i).f=s.fo i∧(r.S i).r=s.rv i
 O:∀ i,i<r.m→(r.O i).b=s.bx (r.n+i)∧(r.O i).f=0∧s.fo (r.n+i)=0∧(r.O i).r=s.rv (r.n+i)∧(r.O i).k=s.ba (r.n+i)
 up:∀ i,i+1<r.m→(r.O i).k<(r.O (i+1)).k
 lo:∀ i,i<r.m→s.h≤(r.O i).k∧(r.O i).k<s.h+T.re
theorem up_lt {r:Rs} (h:∀ i,i+1<r.m→(r.O i).k<(r.O (i+1)).k):∀ j,1≤j→j<r.m→(r.O 0).k<(r.O j).k
 | 0,h1,_=>by omega
 | 1,_,h2=>h 0 h2
 | j+2,_,h2=>by
  have h1:=up_lt h (j+1) (by omega) (by omega)
  have h3:=h (j+1) h2
  exact Int.lt_trans h1 h3
theorem k_ne {T:Tn} {s:St} {r:Rs} (h:eqQ T s r):∀ j,1≤j→j<r.m→¬ (r.O j).k=s.h:=fun j h1 h2=>by
 have:=up_lt h.up j h1 h2
 have:=(h.lo 0 (by omega)).1
 omega
theorem cb_iff {T:Tn} {s:St} {r:Rs} (h:eqQ T s r):(cbQ r s.h=1∧s.n<T.nb∧s.ba s.n.toNat=s.h)∨(cbQ r s.h=0∧¬ (s.n<T.nb∧s.ba s.n.toNat=s.h)):=by
 have hn:=h.n
 have hm:=h.nm
 unfold cbQ
 split
 ·rename_i hc
  have:=(h.O 0 hc.1).2.2.2.2
  exact .inl ⟨rfl,by omega,by rw [← hn,Int.toNat_natCast,← hc.2,this,Nat.add_zero]⟩
 ·rename_i hc
  refine .inr ⟨rfl,fun h1=>hc ⟨by omega,?_⟩⟩
  have:=(h.O 0 (by omega)).2.2.2.2
  rw [this,Nat.add_zero,← h1.2,← hn,Int.toNat_natCast]
structure eqW (T:Tn) (s:St) (r:Rs):Prop where
 n:(r.n:Int)=s.n
 nm:r.n+r.m=T.nb
 S:∀ i,i<r.n→(r.S i).b=s.bx i∧(r.S i).f=s.fo i∧(r.S i).r=s.rv i
 O:∀ i,i<r.m→(r.O i).b=s.bx (r.n+i)∧(r.O i).f=0∧s.fo (r.n+i)=0∧(r.O i).r=s.rv (r.n+i)∧(r.O i).k=s.ba (r.n+i)
 up:∀ i,i+1<r.m→(r.O i).k<(r.O (i+1)).k
 lo:∀ i,i<r.m→s.h<(r.O i).k∧(r.O i).k≤s.h+T.re
theorem cb_n {T:Tn} {s:St} {r:Rs} (h:eqQ T s r):((r.n+cbQ r s.h:Nat):Int)=(cbS T.nb s).n:=by
 have hn:=h.n
 rcases cb_iff h with ⟨h1,h2⟩ | ⟨h1,h2⟩
 ·rw [h1]; unfold cbS; rw [if_pos h2]; show _=s.n+1; omega
 ·rw [h1]; unfold cbS; rw [if_neg h2]; omega
theorem cb_eq {T:Tn} {s:St} {r:Rs} (h:eqQ T s r) (b:Bool) (hb:b=false):eqW T (cbS T.nb s) (wtQ T r s.h b):=by
 subst hb
 have hn:=h.n
 have hm:=h.nm
 have c1:=cb_le1 r s.h
 have hnn:=cb_n h
 have hh:(cbS T.nb s).h=s.h:=by unfold cbS; split <;> rfl
 refine ⟨hnn,by show r.n+cbQ r s.h+(r.m - cbQ r s.h)=_; omega,fun i hi=>?_,fun i hi=>?_,fun i hi=>?_,fun i hi=>?_⟩
 ·have hi:i<r.n+cbQ r s.h:=hi
  have ef:(cbS T.nb s).bx=s.bx∧(cbS T.nb s).fo=s.fo∧(cbS T.nb s).rv=s.rv:=by unfold cbS; split <;> exact ⟨rfl,rfl,rfl⟩
  rw [ef.1,ef.2.1,ef.2.2]
  show (S1 r i).b=_∧(S1 r i).f=_∧(S1 r i).r=_
  unfold S1
  split
  ·rename_i h1; exact h.S i h1
  ·have:=h.O 0 (by omega)
   rw [show i=r.n+0 by omega]
   exact ⟨this.1,by rw [this.2.1,this.2.2.1],this.2.2.2.1⟩
 ·have hi:i<r.m - cbQ r s.h:=hi
  have h1:=h.O (i+cbQ r s.h) (by omega)
  have e:r.n+(i+cbQ r s.h)=r.n+cbQ r s.h+i:=by omega
  rw [e] at h1
  have ef:(cbS T.nb s).bx=s.bx∧(cbS T.nb s).fo=s.fo∧(cbS T.nb s).rv=s.rv:=by unfold cbS; split <;> exact ⟨rfl,rfl,rfl⟩
  have eb:(cbS T.nb s).ba (r.n+cbQ r s.h+i)=s.ba (r.n+cbQ r s.h+i):=by
   rcases cb_iff h with ⟨a1,a2⟩ | ⟨a1,a2⟩
   ·unfold cbS
    rw [if_pos a2]
    show upF s.ba s.n 0 _=_
    unfold upF
    rw [if_neg (by omega)]
   ·unfold cbS; rw [if_neg a2]
  rw [ef.1,ef.2.1,ef.2.2]
  exact ⟨h1.1,h1.2.1,h1.2.2.1,h1.2.2.2.1,by show (O1 r s.h i).k=(cbS T.nb s).ba (r.n+cbQ r s.h+i); rw [eb]; exact h1.2.2.2.2⟩
 ·have hi:i+1<r.m - cbQ r s.h:=hi
  show (r.O (i+cbQ r s.h)).k<(r.O (i+1+cbQ r s.h)).k
  rw [show i+1+cbQ r s.h=i+cbQ r s.h+1 by omega]
  exact h.up _ (by omega)
 ·have hi:i<r.m - cbQ r s.h:=hi
  have h1:=h.lo (i+cbQ r s.h) (by omega)
  rw [hh]
  show s.h<(r.O (i+cbQ r s.h)).k∧(r.O (i+cbQ r s.h)).k≤s.h+T.re
  refine ⟨?_,by omega⟩
  have h0:=h.lo 0 (by omega)
  rcases Nat.eq_zero_or_pos (i+cbQ r s.h) with e | e
  ·have ez:i=0∧cbQ r s.h=0:=by omega
   rw [e]
   rcases cb_iff h with ⟨a1,a2⟩ | ⟨a1,a2⟩
   ·omega
   ·have ho:=(h.O 0 (by omega)).2.2.2.2
    have:¬ (r.O 0).k=s.h:=fun ek=>a2 ⟨by omega,by rw [← hn,Int.toNat_natCast,← ek,ho,Nat.add_zero]⟩
    omega
  ·have:=up_lt h.up _ e (by omega)
   omega
theorem up_0 (f:Nat→Int) (v:Int):upF f 0 v 0=v:=if_pos rfl
theorem ro_last {n i:Nat} (f:Nat→Int) (h:i+1=n):roF n f i=f 0:=by unfold roF; rw [if_neg (by omega),if_pos h]
theorem tn_eq {T:Tn} {s:St} {r:Rs} (hr:1≤T.re) (h:eqQ T s r) (h2:2≤r.n+cbQ r s.h):eqW T (tnS T (cbS T.nb s)) (wtQ T r s.h true):=by
 have w:=cb_eq h false rfl
 have hm:=h.nm
 have c1:=cb_le1 r s.h
 have wn:((r.n+cbQ r s.h:Nat):Int)=(cbS T.nb s).n:=w.n
 have hh:(cbS T.nb s).h=s.h:=by unfold cbS; split <;> rfl
 obtain ⟨s',hs'⟩:∃ s',s'=cbS T.nb s:=⟨_,rfl⟩
 rw [← hs'] at w wn hh ⊢
 obtain ⟨n',hn'⟩:∃ n',n'=r.n+cbQ r s.h:=⟨_,rfl⟩
 obtain ⟨m',hm'⟩:∃ m',m'=r.m - cbQ r s.h:=⟨_,rfl⟩
 rw [← hn'] at wn
 have wS:∀ i,i<n'→(S1 r i).b=s'.bx i∧(S1 r i).f=s'.fo i∧(S1 r i).r=s'.rv i:=fun i hi=>w.S i (by show i<r.n+cbQ r s.h; omega)
 have wO:∀ i,i<m'→(O1 r s.h i).b=s'.bx (n'+i)∧(O1 r s.h i).f=0∧s'.fo (n'+i)=0∧(O1 r s.h i).r=s'.rv (n'+i)∧(O1 r s.h i).k=s'.ba (n'+i):=fun i hi=>by
  have:=w.O i (by show i<r.m - cbQ r s.h; omega)
  rw [hn']; exact this
 have wup:∀ i,i+1<m'→(O1 r s.h i).k<(O1 r s.h (i+1)).k:=fun i hi=>w.up i (by show i+1<r.m - cbQ r s.h; omega)
 have wlo:∀ i,i<m'→s.h<(O1 r s.h i).k∧(O1 r s.h i).k<s.h+T.re:=fun i hi=>by
  have h1:=w.lo i (by show i<r.m - cbQ r s.h; omega)
  have h2:=h.lo (i+cbQ r s.h) (by omega)
  rw [hh] at h1
  exact ⟨h1.1,h2.2⟩
 have on:(wtQ T r s.h true).n=n' - 1:=by show r.n+cbQ r s.h - 1=_; omega
 have om:(wtQ T r s.h true).m=m'+1:=by show r.m - cbQ r s.h+1=_; omega
 have oS:∀ i,(wtQ T r s.h true).S i=S1 r (i+1):=fun i=>rfl
 have oO:∀ i,(wtQ T r s.h true).O i=if i<m' then O1 r s.h i else ⟨(S1 r 0).b,0,if (S1 r 0).r<T.rv then (S1 r 0).r+1 else 0,s.h+T.re⟩:=fun i=>by rw [hm']; rfl
 have nb:n'+m'=T.nb:=by omega
 refine ⟨?_,?_,fun i hi=>?_,fun i hi=>?_,fun i hi=>?_,fun i hi=>?_⟩
 ·rw [on]; show _=s'.n - 1; omega
 ·rw [on,om]; omega
 ·rw [on] at hi
  rw [oS]
  obtain ⟨a1,a2,a3⟩:=wS (i+1) (by omega)
  refine ⟨?_,?_,?_⟩
  ·rw [a1]; show _=roF T.nb s'.bx i; unfold roF; rw [if_pos (by omega)]
  ·rw [a2]
   show _=if s'.n - 1≤(i:Int) then 0 else roF T.nb s'.fo i
   rw [if_neg (by omega)]; unfold roF; rw [if_pos (by omega)]
  ·rw [a3]
   show _=roF T.nb (upF s'.rv 0 _) i
   unfold roF; rw [if_pos (by omega)]; unfold upF; rw [if_neg (by omega)]
 ·rw [om] at hi
  rw [on,oO]
  have f0:(tnS T s').fo (n' - 1+i)=0:=by
   show (if s'.n - 1≤((n' - 1+i:Nat):Int) then 0 else roF T.nb s'.fo (n' - 1+i))=0
   rw [if_pos (by omega)]
  split
  ·rename_i hlt
   obtain ⟨a1,a2,a3,a4,a5⟩:=wO i hlt
   have e:n' - 1+i+1=n'+i:=by omega
   refine ⟨?_,a2,f0,?_,?_⟩
   ·rw [a1]; show _=roF T.nb s'.bx (n' - 1+i); unfold roF; rw [if_pos (by omega),e]
   ·rw [a4]; show _=roF T.nb (upF s'.rv 0 _) (n' - 1+i); unfold roF; rw [if_pos (by omega),e]; unfold upF; rw [if_neg (by omega)]
   ·rw [a5]; show _=roF T.nb (upF s'.ba 0 _) (n' - 1+i); unfold roF; rw [if_pos (by omega),e]; unfold upF; rw [if_neg (by omega)]
  ·obtain ⟨a1,a2,a3⟩:=wS 0 (by omega)
   refine ⟨?_,rfl,f0,?_,?_⟩
   ·show (S1 r 0).b=roF T.nb s'.bx (n' - 1+i); rw [a1,ro_last _ (by omega)]
   ·show (if (S1 r 0).r<T.rv then (S1 r 0).r+1 else 0)=roF T.nb (upF s'.rv 0 (if s'.rv 0<T.rv then s'.rv 0+1 else 0)) (n' - 1+i)
    rw [a3,ro_last _ (by omega),up_0]
   ·show s.h+T.re=roF T.nb (upF s'.ba 0 (s'.h+T.re)) (n' - 1+i)
    rw [ro_last _ (by omega),up_0,hh]
 ·rw [om] at hi
  rw [oO,oO,if_pos (by omega)]
  split
  ·rename_i hlt; exact wup i hlt
  ·exact (wlo i (by omega)).2
 ·rw [om] at hi
  have eh:(tnS T s').h=s.h:=by show s'.h=_; exact hh
  rw [oO,eh]
  split
  ·rename_i hlt; have:=wlo i hlt; omega
  ·show s.h<s.h+T.re∧s.h+T.re≤s.h+T.re; omega
theorem wt_eq {T:Tn} {s:St} {r:Rs} (hr:1≤T.re) (h:eqQ T s r) (w:Nat→Bool) (z:Nat) (h2:w z=true→2≤r.n+cbQ r s.h):eqW T (wtS T (tW w) s z) (wtQ T r s.h (w z)):=by
 unfold wtS
 split
 ·rename_i hw
  have hw:w z=true:=hw
  rw [hw]; exact tn_eq hr h (h2 hw)
 ·rename_i hw
  have hw:w z=false:=by
   cases e:w z with
   | false=>rfl
   | true=>exact (hw e).elim
  exact cb_eq h _ hw
theorem lv_eq {T:Tn} {s:St} {r:Rs} (h:eqW T s r) (c:Int):∀ j,j≤r.n→lvQ T r c j=lvS T s c j∧(j<r.n→tkQ T r c j=tkS T s c j)
 | 0,_=>⟨rfl,fun h0=>by
  obtain ⟨a1,a2,a3⟩:=h.S 0 h0
  unfold tkQ tkS rooS lvQ lvS
  rw [a1,a2,a3]⟩
 | j+1,hj=>by
  obtain ⟨b1,b2⟩:=lv_eq h c j (by omega)
  have e1:lvQ T r c (j+1)=lvQ T r c j - tkQ T r c j:=rfl
  have e:lvQ T r c (j+1)=lvS T s c (j+1):=by rw [lvS_succ,e1,b1,b2 (by omega)]
  refine ⟨e,fun h0=>?_⟩
  obtain ⟨a1,a2,a3⟩:=h.S (j+1) h0
  unfold tkQ tkS rooS
  rw [e,a1,a2,a3]
theorem nx_eq {T:Tn} {s:St} {r:Rs} (h:eqW T s r) (c:Int):eqQ T (psS T s c) ⟨r.n,psQ T r c r.n,r.m,r.O,r.c⟩:=by
 have hn:=h.n
 refine ⟨h.n,h.nm,fun i hi=>?_,fun i hi=>?_,h.up,fun i hi=>?_⟩
 ·have hi:i<r.n:=hi
  obtain ⟨a1,a2,a3⟩:=h.S i hi
  refine ⟨a1,?_,a3⟩
  show (if i<r.n then (r.S i).f+tkQ T r c i else (r.S i).f)=if (i:Int)<s.n then s.fo i+tkS T s c i else s.fo i
  rw [if_pos hi,if_pos (by omega),a2,(lv_eq h c i (by omega)).2 hi]
 ·obtain ⟨a1,a2,a3,a4,a5⟩:=h.O i hi
  refine ⟨a1,a2,?_,a4,a5⟩
  show (if ((r.n+i:Nat):Int)<s.n then _ else s.fo (r.n+i))=0
  rw [if_neg (by omega)]; exact a3
 ·have:=h.lo i hi
  show s.h+1≤(r.O i).k∧(r.O i).k<s.h+1+T.re
  omega
theorem sl_eqQ {T:Tn} {s:St} {r:Rs} (h:eqW T s r) (c:Int):lvQ T r c r.n=slS T s c:=by
 have hn:=h.n
 unfold slS
 rw [← hn,Int.toNat_natCast]
 exact (lv_eq h c r.n (Nat.le_refl _)).1
theorem be_eq {T:Tn}:eqQ T (beS T) (beQ T):=by
 refine ⟨rfl,Nat.add_zero _,fun i hi=>?_,fun i hi=>(Nat.not_lt_zero i hi).elim,fun i hi=>(Nat.not_lt_zero _ hi).elim,fun i hi=>(Nat.not_lt_zero i hi).elim⟩
 have hi:i<T.nb:=hi
 refine ⟨?_,?_,rfl⟩
 ·show (i:Int)=if i<T.nb then (i:Int) else 0
  rw [if_pos hi]
 ·show T.fo i=if i<T.nb then T.fo i else 0
  rw [if_pos hi]
theorem qa_eq {T:Tn} (hT:okT T) {w:Nat→Bool} {c:Nat→Int}:∀ {z:Nat},z≤16→(∀ k,k<z→0≤c k)→(∀ k,k<z→¬ wrA T (tW w) c k)→eqQ T (stA T (tW w) c z) (qA T w c z)
 | 0,_,_,_=>be_eq
 | z+1,hz,hc,hw=>by
  have ih:=qa_eq hT (z:=z) (by omega) (fun k hk=>hc k (by omega)) (fun k hk=>hw k (by omega))
  have ok:=st_ok hT (z:=z) (by omega) (fun k hk=>hc k (by omega)) (fun k hk=>hw k (by omega))
  have eh:=st_h (T:=T) (w:=tW w) (c:=c) z
  have hcb:=cb_ok hT ok
  have hn:=cb_n ih
  have w0:=hw z (by omega)
  have:=wt_eq hT.re.1 ih w z (fun e=>by
   have:=hcb.n
   have:¬ (cbS T.nb (stA T (tW w) c z)).n=1:=fun e1=>w0 ⟨e,e1⟩
   omega)
  rw [eh] at this
  exact nx_eq this (c z)
where st_ok {T:Tn} (h:okT T) {w:Nat→Prop} {c:Nat→Int} {z:Nat} (hm:z≤16) (hc:∀ k,k<z→0≤c k) (hw:∀ k,k<z→¬ wrA T w c k):okS T (stA T w c z):=Go.Lg.st_ok h hm hc hw
theorem wr_eq {T:Tn} (hT:okT T) {w:Nat→Bool} {c:Nat→Int} {z:Nat} (hz:z≤16) (hc:∀ k,k<z→0≤c k) (hw:∀ k,k<z→¬ wrA T (tW w) c k):wrQ T w c z↔wrA T (tW w) c z:=by
 have ih:=qa_eq hT hz hc hw
 have ok:=Go.Lg.st_ok hT hz hc hw
 have eh:=st_h (T:=T) (w:=tW w) (c:=c) z
 have hcb:=cb_ok hT ok
 have hn:=cb_n ih
 rw [eh] at hn
 have:=hcb.n
 unfold wrQ wrA
 constructor
 ·rintro ⟨a,b⟩; exact ⟨a,by omega⟩
 ·rintro ⟨a,b⟩; exact ⟨a,by omega⟩
theorem wq_eq {T:Tn} (hT:okT T) {w:Nat→Bool} {c:Nat→Int} {z:Nat} (hz:z≤16) (hc:∀ k,k<z→0≤c k) (hw:∀ k,k<z+1→¬ wrA T (tW w) c k):eqW T (wtS T (tW w) (stA T (tW w) c z) z) (wtQ T (qA T w c z) z (w z)):=by
 have ih:=qa_eq hT (z:=z) (by omega) hc (fun k hk=>hw k (by omega))
 have ok:=Go.Lg.st_ok hT (m:=z) (by omega) hc (fun k hk=>hw k (by omega))
 have eh:=st_h (T:=T) (w:=tW w) (c:=c) z
 have hcb:=cb_ok hT ok
 have hn:=cb_n ih
 have w0:=hw z (by omega)
 have:=wt_eq hT.re.1 ih w z (fun e=>by
  have:=hcb.n
  have:¬ (cbS T.nb (stA T (tW w) c z)).n=1:=fun e1=>w0 ⟨e,e1⟩
  omega)
 rw [eh] at this
 exact this
theorem sl_eqA {T:Tn} (hT:okT T) {w:Nat→Bool} {c:Nat→Int} {z:Nat} (hz:z≤16) (hc:∀ k,k<z→0≤c k) (hw:∀ k,k<z+1→¬ wrA T (tW w) c k):slQ T w c z=slA T (tW w) c z:=sl_eqQ (wq_eq hT hz hc hw) (c z)
theorem ok_of {T:Tn} {s:St} {r:Rs} (h:eqQ T s r) (hs:okS T s):okQ T r:=by
 have hn:=h.n
 have hm:=h.nm
 refine ⟨hm,fun i hi=>?_,fun i hi=>?_⟩
 ·obtain ⟨a1,a2,a3⟩:=h.S i hi
  exact ⟨by rw [a1]; exact hs.bx i (by omega),by rw [a3]; exact hs.rv i (by omega),by rw [a1,a2,a3]; exact hs.fo i (by omega)⟩
 ·obtain ⟨a1,a2,a3,a4,a5⟩:=h.O i hi
  exact ⟨by rw [a1]; exact hs.bx _ (by omega),by rw [a4]; exact hs.rv _ (by omega),by
   have h1:=hs.fo (r.n+i) (by omega)
   rw [a3] at h1
   rw [a1,a2,a4]; exact h1⟩
end Go.Proofs.Ytpdcajchppoocaa
