import Derived.Test.YtpdcajchppoocaaHaHbHbV
import Derived.Test.YtpdcajchppoocaaEjVEkEkVElEm
set_option linter.unusedVariables false
set_option linter.unusedSimpArgs false
set_option maxRecDepth 100000
namespace Go.Proofs.Ytpdcajchppoocaa
open Go Go.Lg
attribute [local irreducible] bodyH
theorem wrapN_small {n:Nat} (h:n<2 ^ 63):IntKind.wrap .i64 (n:Int)=n:=by
 unfold IntKind.wrap
 have e:IntKind.bits .i64=64:=rfl
 simp only [e]
 have:((n:Int) % 2 ^ 64)=n:=by omega
 rw [this]
 have e2:IntKind.signed .i64=true:=rfl
 simp only [e2,Bool.true_and,decide_eq_true_eq]
 split <;> omega
theorem ofInt_nat {s:Int} (h0:0≤s) (h:s<2 ^ 63):(BitVec.ofInt 64 s).toNat=s.toNat:=by
 rw [BitVec.toNat_ofInt]
 omega
theorem orO_nat {a b:Nat} (ha:a<2 ^ 63) (hb:b<2 ^ 63):bitO .i64 (a:Int) (b:Int)=((a ||| b:Nat):Int):=by
 unfold bitO
 have e:IntKind.bits .i64=64:=rfl
 rw [e,BitVec.toNat_or,ofInt_nat (by omega) (by omega),ofInt_nat (by omega) (by omega)]
 exact wrapN_small (n:=a ||| b) (Nat.or_lt_two_pow (by omega) (by omega))
theorem shP_two {z:Int}:shP z=((2 ^ z.toNat:Nat):Int):=by unfold shP; simp
section
variable {T:Tn} {R:St→Pl} {s:St} {b:Bool}
theorem ch_slip (h:0<slS T (if b=true then tnS T s else s) (T.hi s.h.toNat)):chP T R s b=zP:=by
 unfold chP
 by_cases h0:b=true∧s.n=1
 ·rw [if_pos h0]
 ·rw [if_neg h0,if_pos h]
theorem ch_one (h:s.n=1):chP T R s true=zP:=by unfold chP; rw [if_pos ⟨rfl,h⟩]
theorem ch_no (h1:¬ 0<slS T (if b=true then tnS T s else s) (T.hi s.h.toNat)) (h2:¬ (R (nfS (psS T (if b=true then tnS T s else s) (T.hi s.h.toNat)))).c=true):chP T R s b=zP:=by
 unfold chP
 by_cases h0:b=true∧s.n=1
 ·rw [if_pos h0]
 ·rw [if_neg h0,if_neg h1,if_neg h2]
theorem ch_yes (h0:¬ (b=true∧s.n=1)) (h1:¬ 0<slS T (if b=true then tnS T s else s) (T.hi s.h.toNat)) (h2:(R (nfS (psS T (if b=true then tnS T s else s) (T.hi s.h.toNat)))).c=true) :
  chP T R s b=⟨true,(if b=true then 2 ^ s.h.toNat else 0) ||| (R (nfS (psS T (if b=true then tnS T s else s) (T.hi s.h.toNat)))).t,(if b=true then coS T s else 0)+(R (nfS (psS T (if b=true then tnS T s else s) (T.hi s.h.toNat)))).k⟩:=by
 unfold chP; rw [if_neg h0,if_neg h1,if_pos h2]
end
theorem be_true (a b:Pl):beG a b:=by
 rw [beG_vc]
 simp only [rI,rE,tt3,tt4,tt5,tt13,tt14,ceq,peq,tt23,rI,rE,tt3,tt4,tt5,tt13,tt14,and_true,true_and,Nat.zero_lt_one,and_self,implies_true,Classical.not_not,iff_self,imp_false,and_imp,true_implies]
 exact ⟨fun h=>⟨fun h1=>⟨fun _=>⟨h,.inl h1⟩,fun _=>trivial⟩,fun h1=>⟨fun h2=>⟨h,.inr h2⟩,fun h2=>h2.2.resolve_left fun h3=>h3 h1⟩⟩,fun h=>noF fun h1=>h h1.1⟩
theorem kd2 {x:SV} {p:Pl} (h:prB x↔p.c=true) {t k:SV} (hk:kindOK [true] [x]=true):(SV.agg [x,t,k]).den=(SV.agg [.dec (p.c=true) inferInstance,t,k]).den:=by
 have:x.den=(SV.dec (p.c=true) inferInstance).den:=by
  obtain ⟨y,r,e,_,h3⟩:=kind_t (l:=[]) hk
  cases e
  rcases h3 with ⟨q,i,rfl⟩ | ⟨b,rfl⟩
  ·simp only [SV.den]; congr 2; exact decide_eq_decide.2 h
  ·have h:b=true↔p.c=true:=h
   simp only [SV.den]; congr 2; rw [Bool.eq_iff_iff]; simpa using h
 simp only [SV.den,SV.denL,this]
theorem be_ok:beC.Ok Try.prog:=by
 refine ⟨by kernel_rfl,fun args k hk=>?_⟩
 simp only [beC] at hk
 split at hk
 ·rename_i x t a y u b
  obtain ⟨p,q,⟨h1,h2,rfl,rfl,rfl,rfl,h3⟩,hk⟩:=hk
  obtain ⟨z,r,e,h4,h5⟩:=kind_t (l:=[true]) h3
  cases e
  have hx:kindOK [true] [x]=true:=by rcases h5 with ⟨p,i,rfl⟩ | ⟨c,rfl⟩ <;> rfl
  have e:SV.denL [.agg [x,.int .i64 p.t,.int .i64 p.k],.agg [y,.int .i64 q.t,.int .i64 q.k]]=SV.denL [p.sv,q.sv]:=by
   simp only [SV.denL,kd2 h1 hx,kd2 h2 h4]; rfl
  rw [e]
  exact ⟨_,Does.plain (funH_does nil_cs nil_x nil_ic mixed (be_true p q)) trivial,hk⟩
 ·exact hk.elim
theorem chf_true {M:Nat} {T:Tn} {s:St} {c:Nat} {K:Nat→St} (h:ChP.ok (M+1) ⟨T,s,false,c,K⟩):chfG M T s c K:=by
 rw [chfG_vc]
 simp only [rI,rE,tt3,tt4,tt5,tt13,tt14,ceq,peq,tt23,rI,rE,tt3,tt4,tt5,tt13,tt14,and_true,true_and,Nat.zero_lt_one,and_self,implies_true,Int.toNat_natCast,Nat.zero_add,Nat.add_zero,Nat.one_mul,Nat.mul_one,Classical.not_not,iff_self,imp_false,and_imp,true_implies,forall_const]
 have hT:okT T:=h.T
 have hS:okS T s:=h.S
 have hh:s.h<T.nl:=h.h
 have hm:T.nl - s.h.toNat≤M+1:=h.m
 have hk:okM T c K:=h.k
 have h0:=hS.h
 have hl:=hT.nl
 have hd:=hT.ld s.h.toNat (by omega)
 refine ⟨by omega,hh,T,s,rfl,rfl,⟨hT,hS,by omega,by omega,by omega⟩,fun hs=>?_,fun hs=>?_⟩
 ·have e:chP T (plP T (T.nl - s.h.toNat - 1)) s false=zP:=ch_slip (b:=false) hs
  exact ⟨(c,K),hk,by rw [e]; exact noF (fun e=>nomatch e),by rw [e]; rfl,by rw [e]; rfl,rfl,fun i hi=>by and_intros <;> first | rfl | exact Iff.rfl⟩
 ·have e1:T.nl - (nfS (psS T s (T.hi s.h.toNat))).h.toNat=T.nl - s.h.toNat - 1:=by
   show T.nl - (s.h+1).toNat=_; omega
  have hp:=ps_ok hT hS (by omega) (c:=T.hi s.h.toNat) (by omega)
  refine ⟨⟨T,nfS (psS T s (T.hi s.h.toNat)),c,K⟩,⟨hT,nf_ok hT hp,by show s.h+1≤(T.nl:Int); omega,by show T.nl - (s.h+1).toNat≤M; omega,hk⟩,?_⟩
  simp only [e1]
  and_intros
  all_goals first | rfl | exact trivial | exact fun i hi=>rfl | (intro i hi; and_intros <;> first | rfl | exact Iff.rfl | exact trivial; done) | skip
  ·intro y hy
   refine ⟨fun hc=>?_,fun hc=>?_⟩
   ·have e:chP T (plP T (T.nl - s.h.toNat - 1)) s false=zP:=ch_no (b:=false) hs hc
    exact ⟨y,hy,by rw [e]; exact noF (fun e=>nomatch e),by rw [e]; rfl,by rw [e]; rfl,rfl,fun i hi=>by and_intros <;> first | rfl | exact Iff.rfl⟩
   ·have e:=ch_yes (T:=T) (R:=plP T (T.nl - s.h.toNat - 1)) (s:=s) (b:=false) (by simp) hs hc
    have hb:=pl_bd hT (T.nl - s.h.toNat - 1) (nfS (psS T s (T.hi s.h.toNat))) (by show 0≤s.h+1; omega)
    have hb1:=hb.k
    have hb2:=hb.t
    have hb3:(plP T (T.nl - s.h.toNat - 1) (nfS (psS T s (T.hi s.h.toNat)))).t<2 ^ 63:=Nat.lt_of_lt_of_le hb2 (Nat.pow_le_pow_right (by omega) (by show (s.h+1).toNat+_≤_; omega))
    refine ⟨by omega,y,hy,by rw [e]; exact ⟨fun _=>rfl,fun _=>trivial⟩,?_,by rw [e]; rfl,rfl,fun i hi=>by and_intros <;> first | rfl | exact Iff.rfl⟩
    rw [e]
    exact orO_nat (a:=0) (by omega) hb3
theorem cht_true {M:Nat} {T:Tn} {s:St} {c:Nat} {K:Nat→St} (h:ChP.ok (M+1) ⟨T,s,true,c,K⟩):chtG M T s c K:=by
 rw [chtG_vc]
 simp only [rI,rE,tt3,tt4,tt5,tt13,tt14,ceq,peq,tt23,rI,rE,tt3,tt4,tt5,tt13,tt14,and_true,true_and,Nat.zero_lt_one,and_self,implies_true,Int.toNat_natCast,Nat.zero_add,Nat.add_zero,Nat.one_mul,Nat.mul_one,Classical.not_not,iff_self,imp_false,and_imp,true_implies,forall_const]
 have hT:okT T:=h.T
 have hS:okS T s:=h.S
 have hh:s.h<T.nl:=h.h
 have hm:T.nl - s.h.toNat≤M+1:=h.m
 have hk:okM T c K:=h.k
 have h0:=hS.h
 have hl:=hT.nl
 have hd:=hT.ld s.h.toNat (by omega)
 have hn1:=hS.n
 have hsh:1*shP s.h=((2 ^ s.h.toNat:Nat):Int):=by rw [Int.one_mul,shP_two]
 have h2:2 ^ s.h.toNat≤2 ^ 16:=Nat.pow_le_pow_right (by omega) (by omega)
 have h3:-9223372036854775808≤1*shP s.h∧1*shP s.h≤9223372036854775807:=by
  rw [hsh]
  generalize 2 ^ s.h.toNat=g at h2 ⊢
  omega
 refine ⟨fun h1=>?_,fun h1=>⟨by omega,h3,T,s,rfl,rfl,⟨hT,hS,by omega⟩,by omega,hh,T,tnS T s,rfl,rfl,⟨hT,tn_ok hT hS (by omega),by show s.h≤15; omega,by omega,by omega⟩,fun hs=>?_,fun hs=>?_⟩⟩
 ·have e:chP T (plP T (T.nl - s.h.toNat - 1)) s true=zP:=ch_one h1
  exact ⟨(c,K),hk,by rw [e]; exact noF (fun e=>nomatch e),by rw [e]; rfl,by rw [e]; rfl,rfl,fun i hi=>by and_intros <;> first | rfl | exact Iff.rfl⟩
 ·have e:chP T (plP T (T.nl - s.h.toNat - 1)) s true=zP:=ch_slip (b:=true) hs
  exact ⟨(c,K),hk,by rw [e]; exact noF (fun e=>nomatch e),by rw [e]; rfl,by rw [e]; rfl,rfl,fun i hi=>by and_intros <;> first | rfl | exact Iff.rfl⟩
 ·have e1:T.nl - (nfS (psS T (tnS T s) (T.hi s.h.toNat))).h.toNat=T.nl - s.h.toNat - 1:=by
   show T.nl - (s.h+1).toNat=_; omega
  have hp:=ps_ok hT (tn_ok hT hS (by omega)) (by show s.h≤15; omega) (c:=T.hi s.h.toNat) (by omega)
  refine ⟨⟨T,nfS (psS T (tnS T s) (T.hi s.h.toNat)),c,K⟩,⟨hT,nf_ok hT hp,by show s.h+1≤(T.nl:Int); omega,by show T.nl - (s.h+1).toNat≤M; omega,hk⟩,?_⟩
  simp only [e1]
  and_intros
  all_goals first | rfl | exact trivial | exact fun i hi=>rfl | (intro i hi; and_intros <;> first | rfl | exact Iff.rfl | exact trivial; done) | skip
  ·intro y hy
   refine ⟨fun hc=>?_,fun hc=>?_⟩
   ·have e:chP T (plP T (T.nl - s.h.toNat - 1)) s true=zP:=ch_no (b:=true) hs hc
    exact ⟨y,hy,by rw [e]; exact noF (fun e=>nomatch e),by rw [e]; rfl,by rw [e]; rfl,rfl,fun i hi=>by and_intros <;> first | rfl | exact Iff.rfl⟩
   ·have e:=ch_yes (T:=T) (R:=plP T (T.nl - s.h.toNat - 1)) (s:=s) (b:=true) (fun h=>h1 h.2) hs hc
    have hb:=pl_bd hT (T.nl - s.h.toNat - 1) (nfS (psS T (tnS T s) (T.hi s.h.toNat))) (by show 0≤s.h+1; omega)
    have hb1:=hb.k
    have hb2:=hb.t
    have hb3:(plP T (T.nl - s.h.toNat - 1) (nfS (psS T (tnS T s) (T.hi s.h.toNat)))).t<2 ^ 63:=Nat.lt_of_lt_of_le hb2 (Nat.pow_le_pow_right (by omega) (by show (s.h+1).toNat+_≤_; omega))
    have hc:0≤coS T s∧coS T s≤1000:=by
     have:=hT.wo
     have:=hT.ti
     unfold coS
     split <;> omega
    refine ⟨by omega,y,hy,by rw [e]; exact ⟨fun _=>rfl,fun _=>trivial⟩,?_,by rw [e]; rfl,rfl,fun i hi=>by and_intros <;> first | rfl | exact Iff.rfl⟩
    rw [e,hsh]
    exact orO_nat (Nat.lt_of_le_of_lt h2 (by omega)) hb3
end Go.Proofs.Ytpdcajchppoocaa

set_option maxRecDepth 100000
namespace Go.Proofs.Ytpdcajchppoocaa
open Go Go.Lg
attribute [local irreducible] bodyH
theorem pl_key {T:Tn} {s:St} (h0:0≤s.h) (h:s.h<T.nl):plP T (T.nl - s.h.toNat) s=pvK T (nfS (cbS T.nb s)):=by
 have eh:(nfS (cbS T.nb s)).h=s.h:=by show (cbS T.nb s).h=s.h; unfold cbS; split <;> rfl
 unfold pvK
 rw [eh]
 obtain ⟨m,hm⟩:∃ m,T.nl - s.h.toNat=m+1:=⟨T.nl - s.h.toNat - 1,by omega⟩
 rw [hm]
 rfl
theorem fr_true {M:Nat} {T:Tn} {s:St} {c:Nat} {K:Nat→St} (h:FrP.ok M ⟨T,s,c,K⟩):frG M T s c K:=by
 rw [frG_vc]
 simp only [frG0,frG1,rI,rE,tt3,tt4,tt5,tt13,tt14,ceq,peq,tt23,rI,rE,tt3,tt4,tt5,tt13,tt14,and_true,true_and,Nat.zero_lt_one,and_self,implies_true,Int.toNat_natCast,Nat.zero_add,Nat.add_zero,Nat.one_mul,Nat.mul_one,Classical.not_not,iff_self,imp_false,and_imp,true_implies,forall_const]
 have hT:okT T:=h.T
 have hS:okS T s:=h.S
 have hh:s.h≤T.nl:=h.h
 have hm:T.nl - s.h.toNat≤M:=h.m
 have hk:okM T c K:=h.k
 have h0:=hS.h
 have hl:=hT.nl
 have hnb:=hT.nb
 have hn:=hS.n
 have eh:(nfS (cbS T.nb s)).h=s.h:=by show (cbS T.nb s).h=s.h; unfold cbS; split <;> rfl
 refine ⟨fun hs=>?_,fun hs=>⟨s,rfl,⟨by omega,by omega,by omega⟩,fun j hj=>?_,fun hno=>⟨⟨(0,c,K),⟨by show 0≤2; omega,hk⟩,rfl,?_⟩,fun z hz hkz=>⟨fun hlt=>?_,fun hlt=>⟨fun j hj=>?_,fun hno2=>?_⟩⟩⟩⟩⟩
 ·have e:T.nl - s.h.toNat=0:=by omega
  rw [e]
  exact ⟨(c,K),hk,⟨fun _=>rfl,fun _=>trivial⟩,rfl,rfl,rfl,fun i hi=>by and_intros <;> first | rfl | exact Iff.rfl⟩
 ·intro A0 A1 A2 A3 A4 A5 A6 A7 A8 A9 A10 A11 A12 A13 A14 A15 A16 A17 A18 A19 A20 A21 _
  have e:=nf_22 (hk.n j hj) A0 A1 A2 A3 A4 A5 A6 A7 A8 A9 A10 A11 A12 A13 A14 A15 A16 A17 A18 A19 A20 A21
  have ep:=pl_key (T:=T) (s:=s) h0.1 (by omega)
  rw [e] at ep
  exact ⟨(c,K),hk,by rw [ep],by rw [ep],by rw [ep],rfl,fun i hi=>by and_intros <;> first | rfl | exact Iff.rfl⟩
 ·and_intros
  all_goals first | rfl | exact trivial | exact ⟨fun e=>e.elim,fun e=>nomatch e⟩ | (intro i hi; and_intros <;> first | rfl | exact Iff.rfl; done)
 ·obtain ⟨r,c',K'⟩:=z
  have hr:r=0∨r=1:=by have:(r:Int)<2:=hlt; omega
  have okp:∀ b,ChP.ok M ⟨T,nfS (cbS T.nb s),b,c',K'⟩:=fun b=>⟨hT,nf_ok hT (cb_ok hT hS),by show (cbS T.nb s).h<T.nl; rw [show (cbS T.nb s).h=s.h from eh]; omega,by show T.nl - (cbS T.nb s).h.toNat≤M; rw [show (cbS T.nb s).h=s.h from eh]; exact hm,hkz⟩
  have eh2:(cbS T.nb s).h=s.h:=eh
  refine ⟨by omega,hlt,by show r<2; omega,?_⟩
  rcases hr with rfl | rfl
  ·refine ⟨⟨T,nfS (cbS T.nb s),false,c',K'⟩,okp false,?_⟩
   and_intros
   all_goals first | rfl | exact trivial | exact fun i hi=>rfl | exact Iff.rfl | (intro i hi; and_intros <;> first | rfl | exact Iff.rfl; done) | skip
   ·intro y hy
    rw [eh]
    refine ⟨chP T (plP T (T.nl - s.h.toNat - 1)) (nfS (cbS T.nb s)) false,bsR T (plP T (T.nl - s.h.toNat - 1)) (nfS (cbS T.nb s)) 0,⟨Iff.rfl,Iff.rfl,rfl,rfl,rfl,rfl⟩,fun hb=>?_,fun hb=>?_⟩
    ·have e:bsR T (plP T (T.nl - s.h.toNat - 1)) (nfS (cbS T.nb s)) 1=chP T (plP T (T.nl - s.h.toNat - 1)) (nfS (cbS T.nb s)) false:=if_pos hb
     exact ⟨by omega,(1,y.1,y.2),⟨by show 1≤2; omega,hy⟩,by show 2 - 1<2 - 0; omega,rfl,rfl,fun i hi=>by and_intros <;> first | rfl | exact Iff.rfl,by rw [e],by rw [e],by rw [e]⟩
    ·have e:bsR T (plP T (T.nl - s.h.toNat - 1)) (nfS (cbS T.nb s)) 1=bsR T (plP T (T.nl - s.h.toNat - 1)) (nfS (cbS T.nb s)) 0:=if_neg hb
     exact ⟨by omega,(1,y.1,y.2),⟨by show 1≤2; omega,hy⟩,by show 2 - 1<2 - 0; omega,rfl,rfl,fun i hi=>by and_intros <;> first | rfl | exact Iff.rfl,by rw [e],by rw [e],by rw [e]⟩
  ·refine ⟨⟨T,nfS (cbS T.nb s),true,c',K'⟩,okp true,?_⟩
   and_intros
   all_goals first | rfl | exact trivial | exact fun i hi=>rfl | exact Iff.rfl | (intro i hi; and_intros <;> first | rfl | exact Iff.rfl; done) | skip
   ·intro y hy
    rw [eh]
    refine ⟨chP T (plP T (T.nl - s.h.toNat - 1)) (nfS (cbS T.nb s)) true,bsR T (plP T (T.nl - s.h.toNat - 1)) (nfS (cbS T.nb s)) 1,⟨Iff.rfl,Iff.rfl,rfl,rfl,rfl,rfl⟩,fun hb=>?_,fun hb=>?_⟩
    ·have e:bsR T (plP T (T.nl - s.h.toNat - 1)) (nfS (cbS T.nb s)) 2=chP T (plP T (T.nl - s.h.toNat - 1)) (nfS (cbS T.nb s)) true:=if_pos hb
     exact ⟨by omega,(2,y.1,y.2),⟨by show 2≤2; omega,hy⟩,by show 2 - 2<2 - 1; omega,rfl,rfl,fun i hi=>by and_intros <;> first | rfl | exact Iff.rfl,by rw [e],by rw [e],by rw [e]⟩
    ·have e:bsR T (plP T (T.nl - s.h.toNat - 1)) (nfS (cbS T.nb s)) 2=bsR T (plP T (T.nl - s.h.toNat - 1)) (nfS (cbS T.nb s)) 1:=if_neg hb
     exact ⟨by omega,(2,y.1,y.2),⟨by show 2≤2; omega,hy⟩,by show 2 - 2<2 - 1; omega,rfl,rfl,fun i hi=>by and_intros <;> first | rfl | exact Iff.rfl,by rw [e],by rw [e],by rw [e]⟩
 ·obtain ⟨r,c',K'⟩:=z
  obtain rfl:r=2:=by have:¬ (r:Int)<2:=hlt; have:r≤2:=hz; omega
  intro A0 A1 A2 A3 A4 A5 A6 A7 A8 A9 A10 A11 A12 A13 A14 A15 A16 A17 A18 A19 A20 A21 _
  have e:nfS (cbS T.nb s)=K' j:=(nf_nf _).symm.trans <| nf_22 (hkz.n j hj) A0 A1 A2 A3 A4 A5 A6 A7 A8 A9 A10 A11 A12 A13 A14 A15 A16 A17 A18 A19 A20 A21
  have ep:=pl_key (T:=T) (s:=s) h0.1 (by omega)
  have ek:bsR T (plP T (T.nl - s.h.toNat - 1)) (nfS (cbS T.nb s)) 2=pvK T (nfS (cbS T.nb s)):=by unfold pvK; rw [eh]; rfl
  have ek2:pvK T (K' j)=pvK T (nfS (cbS T.nb s)):=by rw [show K' j=nfS (cbS T.nb s) from e.symm]
  refine ⟨(c',K'),hkz,by rw [ek,ep],by rw [ek,ep],by rw [ek,ep],rfl,fun i hi=>?_⟩
  simp only [ek]
  by_cases hij:i=j
  ·subst hij
   simp only [ek2,if_true,true_and,not_true,false_and,or_false]
   try (and_intros <;> first | rfl | exact Iff.rfl | exact trivial)
  ·simp only [hij,if_false,false_and,not_false_eq_true,true_and,false_or]
   try (and_intros <;> first | rfl | exact Iff.rfl | exact trivial)
 ·obtain ⟨r,c',K'⟩:=z
  obtain rfl:r=2:=by have:¬ (r:Int)<2:=hlt; have:r≤2:=hz; omega
  have ep:=pl_key (T:=T) (s:=s) h0.1 (by omega)
  have ek:bsR T (plP T (T.nl - s.h.toNat - 1)) (nfS (cbS T.nb s)) 2=pvK T (nfS (cbS T.nb s)):=by unfold pvK; rw [eh]; rfl
  refine ⟨(c'+1,fun i=>if i<c' then K' i else nfS (cbS T.nb s)),⟨fun i hi=>?_⟩,by rw [ek,ep],by rw [ek,ep],by rw [ek,ep],rfl,fun i hi=>?_⟩
  ·by_cases hc:i<c'
   ·simp only [if_pos hc]; exact hkz.n i hc
   ·simp only [if_neg hc]; exact nf_nf _
  ·simp only [ek]
   by_cases hc:i<c'
   ·simp only [hc,if_true,true_and,not_true,false_and,or_false]
    try (and_intros <;> first | rfl | exact Iff.rfl | exact trivial)
   ·simp only [hc,if_false,false_and,not_false_eq_true,true_and,false_or]
    try (and_intros <;> first | rfl | exact Iff.rfl | exact trivial)
end Go.Proofs.Ytpdcajchppoocaa

set_option maxRecDepth 100000
namespace Go.Proofs.Ytpdcajchppoocaa
open Go Go.Lg
attribute [local irreducible] bodyH
theorem chC_step {M:Nat} (h:(frC M).Ok Try.prog):(chC (M+1)).Ok Try.prog:=by
 refine ⟨by kernel_rfl,fun p hp=>?_⟩
 obtain ⟨T,s,b,c,K⟩:=p
 have hx:SoundXH Try.prog noGhost γ0 (ctrsP [trnP,pasP] (ctrsM [frC M] noX)):=ctrsP_sound (ctrsM_sound nil_x (by intro x hx; simp at hx; subst hx; exact h)) (by
  intro x hx
  simp only [List.mem_cons,List.not_mem_nil,or_false] at hx
  rcases hx with rfl | rfl
  ·exact trn_ok
  ·exact pas_ok)
 cases b with
 | false =>
  have t:=chf_true hp
  unfold chfG at t
  exact mrH_ok nil_cs hx nil_ic mixed t
 | true =>
  have t:=cht_true hp
  unfold chtG at t
  exact mrH_ok nil_cs hx nil_ic mixed t
theorem frC_step {M:Nat} (h:(chC M).Ok Try.prog):(frC M).Ok Try.prog:=by
 refine ⟨by kernel_rfl,fun p hp=>?_⟩
 obtain ⟨T,s,c,K⟩:=p
 have hx:SoundXH Try.prog noGhost γ0 (ctrsP [cbkP] (ctrsM [chC M] noX)):=ctrsP_sound (ctrsM_sound nil_x (by intro x hx; simp at hx; subst hx; exact h)) (by intro x hx; simp at hx; subst hx; exact cbk_ok)
 have t:=fr_true hp
 unfold frG at t
 exact mrH_ok (ctrs_sound (by intro x hx; simp at hx; subst hx; exact be_ok)) hx nil_ic mixed t
theorem chC_ok:∀ M,(chC M).Ok Try.prog
 | 0=>⟨by kernel_rfl,fun p hp=>by
  have h1:=hp.h
  have h2:=hp.m
  have h3:=hp.S.h
  exfalso; omega⟩
 | M+1=>chC_step (frC_step (chC_ok M))
theorem frC_ok (M:Nat):(frC M).Ok Try.prog:=frC_step (chC_ok M)
noncomputable def seP (T:Tn):Pl:=plP T T.nl (beS T)
noncomputable def seG (T:Tn):Prop:=funH Try.prog (ctrs [srtC]) (ctrsM [frC 16] noX) (ictrs []) (oneL 1004 { unrH 1 with all:=true }) noL 42 [tV T] (seP T).sv
noncomputable def seC (b:Bool):Ctr:=⟨42,fun args k=>match args with
 | [x]=>∃ T:Tn,(x=tV T∧okT T∧(seP T).c=b)∧k (.agg [.bool b,b6 (seP T).t,b6 (seP T).k])
 | _=>False⟩
noncomputable def vtB (b:Bool):Ctr:=⟨41,fun args k=>match args with
 | [x]=>∃ T:Tn,(x=tV T∧(okT T↔b=true))∧k (.bool b)
 | _=>False⟩
def btB (p:Pl) (k:Nat):Bool:=p.t.testBit k
noncomputable def btH (T:Tn):HSpec:=rowH 37 2 (fun h=>h≤T.nl) (fun h=>T.nl - h)
 (fun h=>mkF 37 [(2,.sl 2 0 T.nl),(5,.ptr 1 0 0),(20,b6 T.nl),(21,b6 h)])
 (fun h=>mkX [vr 7 (tV T),vr 3 (.agg [.bool true,b6 (seP T).t,b6 (seP T).k]),rw' 1 T.nl fun k=>.dec (k<h∧btB (seP T) k=true) inferInstance])
noncomputable def btV (T:Tn):SV:=twL T.nl (btB (seP T))
noncomputable def btG (T:Tn):Prop:=funN Try.prog (ctrs [vtB true,seC true]) noX (ictrs []) (oneL 0 { btH T with nr:=2 }) noL 21 [tV T] (.tup [btV T,b6 (seP T).k,b6 0])
noncomputable def btFG (T:Tn):Prop:=funN Try.prog (ctrs [vtB true,seC false]) noX (ictrs []) noL noL 21 [tV T] (.tup [.val (.slice none 0 0),b6 0,b6 12])
noncomputable def btAG (T:Tn):Prop:=funN Try.prog (ctrs [vtB false]) noX (ictrs []) noL noL 21 [tV T] (.tup [.val (.slice none 0 0),b6 0,b6 1])
end Go.Proofs.Ytpdcajchppoocaa

set_option maxRecDepth 100000
namespace Go.Proofs.Ytpdcajchppoocaa
open Go Go.Lg
local notation "Z0"=>(0:Int)
local notation "N0"=>(0:Nat)
local notation "N1"=>(1:Nat)
theorem seG_vc (T:Tn):seG T=(N0<N1∧N0<N1∧(∀ (i:Nat),i<T.1→True∧True∧True∧True)∧∃ T_1,(T.1=T_1.1∧bxV T=bxV T_1∧N1≤T_1.1∧T_1.1≤(5:Nat))∧∃ p,FrP.ok (16:Nat) p∧Z0=p.s.1∧(↑T_1.1:Int)=p.s.2∧(if N0<T_1.1 then (↑N0:Int) else Z0)=p.s.3 N0∧(if N1<T_1.1 then (↑N1:Int) else Z0)=p.s.3 N1∧(if (2:Nat)<T_1.1 then (↑(2:Nat):Int) else Z0)=p.s.3 (2:Nat)∧(if (3:Nat)<T_1.1 then (↑(3:Nat):Int) else Z0) =
p.s.3 (3:Nat)∧(if (4:Nat)<T_1.1 then (↑(4:Nat):Int) else Z0)=p.s.3 (4:Nat)∧(if N0<T_1.1 then T_1.4 N0 else Z0)=p.s.4 N0∧(if N1<T_1.1 then T_1.4 N1 else Z0)=p.s.4 N1∧(if (2:Nat)<T_1.1 then T_1.4 (2:Nat) else Z0)=p.s.4 (2:Nat)∧(if (3:Nat)<T_1.1 then T_1.4 (3:Nat) else Z0)=p.s.4 (3:Nat)∧(if (4:Nat)<T_1.1 then T_1.4 (4:Nat) else Z0)=p.s.4 (4:Nat)∧Z0=p.s.5 N0∧Z0=p.s.5 N1∧Z0=p.s.5 (2:Nat)∧Z0 =
p.s.5 (3:Nat)∧Z0=p.s.5 (4:Nat)∧Z0=p.s.6 N0∧Z0=p.s.6 N1∧Z0=p.s.6 (2:Nat)∧Z0=p.s.6 (3:Nat)∧Z0=p.s.6 (4:Nat)∧rE N0∧rE N0∧rE N0∧rE N0∧rE N0∧rE N0∧T.1=p.T.1∧(∀ (i:Nat),i<p.T.1→(bxV T i).den=(bxV p.T i).den)∧T.5=p.T.5∧T.6=p.T.6∧T.7=p.T.7∧T.8=p.T.8∧T.9=p.T.9∧T.10=p.T.10∧(∀ (i:Nat),i<p.T.10→(ldV T i).den=(ldV p.T i).den)∧rE false∧rE Z0∧rE Z0∧N0=p.3∧(∀ (i:Nat),i<p.3 →
False)∧rE N0∧rE N0∧rE N0∧rE N0∧rE N0∧rE N0∧∀ (y:Nat × (Nat→St)),okM p.T y.fst y.snd→N0<N1∧((plP p.T (p.T.nl - p.s.h.toNat) p.s).1=true↔(seP T).1=true)∧(↑(plP p.T (p.T.nl - p.s.h.toNat) p.s).2:Int)=(↑(seP T).2:Int)∧(plP p.T (p.T.nl - p.s.h.toNat) p.s).3=(seP T).3∧True):=by kernel_rfl
theorem btG_vc (T:Tn):btG T=(N0<N1∧(∀ (i:Nat),i<T.1→True∧True∧True∧True)∧(∀ (i:Nat),i<T.10→True∧True∧True)∧∃ T_1,(tV T=tV T_1∧(okT T_1↔true=true))∧N0<N1∧(∀ (i:Nat),i<T.1→True∧True∧True∧True)∧(∀ (i:Nat),i<T.10→True∧True∧True)∧∃ T_2,(tV T=tV T_2∧okT T_2∧(seP T_2).1=true)∧N0<N1∧N0<N1∧Z0≤(↑T.10:Int)∧(↑T.10:Int)≤(↑T.10:Int)∧(↑T.10:Int)≤(1048576:Int)∧(↑T.10:Int)*(↑N1:Int)≤(140737488355328:Int)∧(∃
(z:Nat),z≤T.10∧rE N0∧(↑T.10:Int).toNat=T.10∧rE N0∧rE N0∧(↑(↑T.10:Int).toNat:Int)=(↑T.10:Int)∧Z0=(↑z:Int)∧T.1=T.1∧(∀ (i:Nat),i<T.1→rE ((bxV T i).den)∧True∧True∧True∧True)∧T.5=T.5∧T.6=T.6∧T.7=T.7∧T.8=T.8∧T.9=T.9∧rE T.10∧(∀ (i:Nat),i<T.10→rE ((ldV T i).den)∧True∧True∧True)∧rE true∧(↑(seP T_2).2:Int)=(↑(seP T).2:Int)∧(seP T_2).3=(seP T).3∧T.10=(↑T.10:Int).toNat∧(∀ (i:Nat),i<T.10→rE N1∧(false=true↔i<z∧btB (seP T) i=true)∧True) ∧
True)∧∀ (z:Nat),z≤T.10→((↑z:Int)<(↑T.10:Int)→N0<N1∧(Z0≤(↑z:Int)∧(↑z:Int)≤(↑(64:Nat):Int))∧Z0≤(↑z:Int)∧(↑z:Int)<(↑T.10:Int)∧N0+N1≤N1∧N0+(↑z:Int).toNat<T.10∧(∀ (i':Nat),rE true)∧rI ((↑z:Int)+(1:Int))∧∃ (z_1:Nat),z_1≤T.10∧T.10 - z_1<T.10 - z∧rE N0∧rE T.10∧rE N0∧rE N0∧rE (↑T.10:Int)∧(↑z:Int)+(1:Int)=(↑z_1:Int)∧T.1=T.1∧(∀ (i:Nat),i<T.1→rE ((bxV T i).den)∧True∧True∧True∧True)∧T.5=T.5 ∧
T.6=T.6∧T.7=T.7∧T.8=T.8∧T.9=T.9∧rE T.10∧(∀ (i:Nat),i<T.10→rE ((ldV T i).den)∧True∧True∧True)∧rE true∧rE (↑(seP T).2:Int)∧rE ((seP T).3)∧rE T.10∧(∀ (i:Nat),i<T.10→rE N1∧(i=N0+(↑z:Int).toNat∧bitA IntKind.i64 ((↑(seP T).t:Int).fdiv (shP (↑z:Int))) (1:Int)=(1:Int)∨¬i=N0+(↑z:Int).toNat∧i<z∧btB (seP T) i=true↔i<z_1∧btB (seP T) i=true)∧True)∧True)∧(¬(↑z:Int)<(↑T.10:Int)→N0<N1∧rE T.10∧N0+T.10≤T.10∧(∀ (i:Nat),i<T.10→rE N1∧rE
N1∧(i+N0<z∧btB (seP T) (i+N0)=true↔btB (seP T) i=true)∧True)∧rE ((seP T).3)∧rE Z0∧True)):=by kernel_rfl
theorem btFG_vc (T:Tn):btFG T=(N0<N1∧(∀ (i:Nat),i<T.1→True∧True∧True∧True)∧(∀ (i:Nat),i<T.10→True∧True∧True)∧∃ T_1,(tV T=tV T_1∧(okT T_1↔true=true))∧N0<N1∧(∀ (i:Nat),i<T.1→True∧True∧True∧True)∧(∀ (i:Nat),i<T.10→True∧True∧True)∧∃ T_2,(tV T=tV T_2∧okT T_2∧(seP T_2).1=false)∧N0<N1∧Value.slice none N0 N0=Value.slice none N0 N0∧Z0=Z0∧(12:Int)=(12:Int)∧True):=by kernel_rfl
theorem btAG_vc (T:Tn):btAG T=(N0<N1∧(∀ (i:Nat),i<T.1→True∧True∧True∧True)∧(∀ (i:Nat),i<T.10→True∧True∧True)∧∃ T_1,(tV T=tV T_1∧(okT T_1↔false=true))∧Value.slice none N0 N0=Value.slice none N0 N0∧Z0=Z0∧(1:Int)=(1:Int)∧True):=by kernel_rfl
end Go.Proofs.Ytpdcajchppoocaa

set_option maxRecDepth 100000
namespace Go.Proofs.Ytpdcajchppoocaa
open Go Go.Lg
attribute [local irreducible] bodyH
theorem bit_tb {n s:Int} (h0:0≤s) (h:s<2 ^ 63):bitA .i64 (s.fdiv (shP n)) 1=1↔s.toNat.testBit n.toNat=true:=by
 unfold bitA shP
 have e:IntKind.bits .i64=64:=rfl
 rw [e]
 have hp:(2:Int) ^ n.toNat=((2 ^ n.toNat:Nat):Int):=by simp
 have h1:s.fdiv (2 ^ n.toNat)=((s.toNat / 2 ^ n.toNat:Nat):Int):=by
  rw [Int.fdiv_eq_ediv_of_nonneg _ (by rw [hp]; exact Int.natCast_nonneg _),hp,Int.natCast_ediv,Int.toNat_of_nonneg h0]
 have hq:s.toNat / 2 ^ n.toNat≤s.toNat:=Nat.div_le_self _ _
 have h2:(BitVec.ofInt 64 (s.fdiv (2 ^ n.toNat))).toNat=s.toNat / 2 ^ n.toNat:=by
  rw [h1,ofInt_nat (Int.natCast_nonneg _) (by omega),Int.toNat_natCast]
 have h3:(BitVec.ofInt 64 1).toNat=1:=by decide
 rw [BitVec.toNat_and,h2,h3,Nat.and_one_is_mod,wrapN_small (n:=s.toNat / 2 ^ n.toNat % 2) (by omega),Nat.testBit_eq_decide_div_mod_eq]
 simp only [decide_eq_true_eq]
 omega
theorem se_true {T:Tn} (h:okT T):seG T:=by
 rw [seG_vc]
 simp only [rI,rE,tt3,tt4,tt5,tt13,tt14,rI,rE,tt3,tt4,tt5,tt13,tt14,and_true,true_and,Nat.zero_lt_one,and_self,implies_true,Int.toNat_natCast,Nat.zero_add,Nat.add_zero,Nat.one_mul,Nat.mul_one,Classical.not_not,iff_self,imp_false,and_imp,true_implies,forall_const]
 have hb:=h.nb
 have hl:=h.nl
 refine ⟨T,⟨rfl,rfl,hb.1,hb.2⟩,⟨T,beS T,0,fun _=>beS T⟩,⟨h,Go.Lg.be_ok h,by show (0:Int)≤T.nl; omega,by show T.nl - 0≤16; omega,⟨fun i hi=>(Nat.not_lt_zero i hi).elim⟩⟩,?_⟩
 and_intros
 all_goals first | rfl | exact fun i hi=>rfl | exact fun i hi=>(Nat.not_lt_zero i hi).elim | exact fun y hy=>⟨Iff.rfl,rfl,rfl⟩
theorem seC_ok (b:Bool):(seC b).Ok Try.prog:=by
 refine ⟨by kernel_rfl,fun args k hk=>?_⟩
 simp only [seC] at hk
 split at hk
 ·obtain ⟨T,⟨rfl,h,rfl⟩,hk⟩:=hk
  have d:=funH_does (ctrs_sound (by intro x hx; simp at hx; subst hx; exact srt_ok)) (ctrsM_sound nil_x (by intro x hx; simp at hx; subst hx; exact frC_ok 16)) nil_ic mixed (se_true h)
  have e:(seP T).sv.den=(SV.agg [.bool (seP T).c,b6 (seP T).t,b6 (seP T).k]).den:=by
   simp only [Pl.sv,SV.den,SV.denL]; simp
  rw [e] at d
  exact ⟨_,Does.plain d (by simp [plainS,plainS.plainL,b6]),hk⟩
 ·exact hk.elim
theorem vtB_ok (b:Bool):(vtB b).Ok Try.prog:=by
 refine ⟨by kernel_rfl,fun args k hk=>?_⟩
 simp only [vtB] at hk
 split at hk
 ·rename_i x
  obtain ⟨T,⟨rfl,h⟩,hk⟩:=hk
  obtain ⟨res,h1,h2⟩:=vt_ok.2 [tV T] (fun v=>v=.dec (okT T) (Classical.propDecidable _)) ⟨T,rfl,rfl⟩
  subst h2
  have e:(SV.dec (okT T) (Classical.propDecidable _)).den=(SV.bool b).den:=by
   simp only [SV.den]; congr 2; rw [Bool.eq_iff_iff]; exact Iff.trans (@decide_eq_true_iff _ (Classical.propDecidable _)) h
  rw [e] at h1
  exact ⟨_,h1,hk⟩
 ·exact hk.elim
theorem se_bd {T:Tn} (h:okT T):(seP T).t<2 ^ 16∧0≤(seP T).k∧(seP T).k≤16000:=by
 have hb:=pl_bd h T.nl (beS T) (by show (0:Int)≤0; omega)
 have hl:=h.nl
 have h1:(seP T).t<2 ^ (0+T.nl):=hb.t
 have h2:2 ^ (0+T.nl)≤2 ^ 16:=Nat.pow_le_pow_right (by omega) (by omega)
 have h3:0≤(seP T).k∧(seP T).k≤1000*(T.nl:Int):=hb.k
 omega
theorem bt_true {T:Tn} (h:okT T) (hc:(seP T).c=true):btG T:=by
 rw [btG_vc]
 simp only [rI,rE,tt3,tt4,tt5,tt13,tt14,rI,rE,tt3,tt4,tt5,tt13,tt14,and_true,true_and,Nat.zero_lt_one,and_self,implies_true,Int.toNat_natCast,Nat.zero_add,Nat.add_zero,Nat.one_mul,Nat.mul_one,Classical.not_not,imp_false,and_imp,true_implies,forall_const]
 have hl:=h.nl
 have hb:=(se_bd h).1
 refine ⟨T,⟨rfl,⟨fun _=>trivial,fun _=>h⟩⟩,T,⟨rfl,h,hc⟩,by omega,by omega,by omega,by omega,⟨0,by omega,rfl,rfl,rfl,fun i hi=>⟨fun e=>(by cases e),fun e=>(Nat.not_lt_zero _ e.1).elim⟩⟩,fun z hz=>⟨fun hlt=>⟨by omega,by omega,hlt,by omega,by omega,by omega,z+1,by omega,by omega,by omega,fun i hi=>?_⟩,fun hlt=>⟨by omega,fun i hi=>⟨fun e=>e.2,fun e=>⟨by omega,e⟩⟩⟩⟩⟩
 have hbt:bitA .i64 (((seP T).t:Int).fdiv (shP (z:Int))) 1=1↔btB (seP T) z=true:=bit_tb (by omega) (by omega)
 rw [hbt]
 by_cases e:i=z
 ·subst e
  exact ⟨fun h=>h.elim (fun h=>⟨Nat.lt_succ_self _,h.2⟩) fun h=>(h.1 rfl).elim,fun h=>.inl ⟨rfl,h.2⟩⟩
 ·constructor
  ·rintro (⟨h1,_⟩ | ⟨_,h1,h2⟩)
   ·exact (e h1).elim
   ·exact ⟨by omega,h2⟩
  ·rintro ⟨h1,h2⟩
   exact .inr ⟨e,by omega,h2⟩
theorem btF_true {T:Tn} (h:okT T) (hc:(seP T).c=false):btFG T:=by
 rw [btFG_vc]
 simp only [rI,rE,tt3,tt4,tt5,tt13,tt14,rI,rE,tt3,tt4,tt5,tt13,tt14,and_true,true_and,Nat.zero_lt_one,and_self,implies_true,Int.toNat_natCast,Classical.not_not,imp_false,and_imp,true_implies,forall_const]
 exact ⟨T,⟨rfl,⟨fun _=>trivial,fun _=>h⟩⟩,T,rfl,h,hc⟩
theorem btA_true {T:Tn} (h:¬ okT T):btAG T:=by
 rw [btAG_vc]
 simp only [rI,rE,tt3,tt4,tt5,tt13,tt14,rI,rE,tt3,tt4,tt5,tt13,tt14,and_true,true_and,Nat.zero_lt_one,and_self,implies_true,Int.toNat_natCast,Classical.not_not,imp_false,and_imp,true_implies,forall_const]
 exact ⟨T,rfl,⟨fun e=>(h e).elim,fun e=>nomatch e⟩⟩
noncomputable def btC:Ctr:=⟨21,fun args k=>match args with
 | [x]=>∃ T:Tn,(x=tV T∧okT T∧(seP T).c=true)∧k (.tup [btV T,b6 (seP T).k,b6 0])
 | _=>False⟩
noncomputable def btFC:Ctr:=⟨21,fun args k=>match args with
 | [x]=>∃ T:Tn,(x=tV T∧okT T∧(seP T).c=false)∧k (.tup [.val (.slice none 0 0),b6 0,b6 12])
 | _=>False⟩
noncomputable def btAC:Ctr:=⟨21,fun args k=>match args with
 | [x]=>∃ T:Tn,(x=tV T∧¬ okT T)∧k (.tup [.val (.slice none 0 0),b6 0,b6 1])
 | _=>False⟩
theorem bt_cs (b:Bool):SoundS Try.prog (ctrs [vtB true,seC b]):=ctrs_sound (by
 intro x hx
 simp only [List.mem_cons,List.not_mem_nil,or_false] at hx
 rcases hx with rfl | rfl
 ·exact vtB_ok _
 ·exact seC_ok _)
theorem btC_ok:btC.Ok Try.prog:=by
 refine ⟨by kernel_rfl,fun args k hk=>?_⟩
 simp only [btC] at hk
 split at hk
 ·obtain ⟨T,⟨rfl,h,hc⟩,hk⟩:=hk
  exact ⟨_,funN_does (bt_cs true) nil_x nil_ic mixed (bt_true h hc) (by simp [flatS,flatSL,btV,twL,SV.cells,scS,b6]),hk⟩
 ·exact hk.elim
theorem btFC_ok:btFC.Ok Try.prog:=by
 refine ⟨by kernel_rfl,fun args k hk=>?_⟩
 simp only [btFC] at hk
 split at hk
 ·obtain ⟨T,⟨rfl,h,hc⟩,hk⟩:=hk
  exact ⟨_,funN_does (bt_cs false) nil_x nil_ic mixed (btF_true h hc) (by simp [flatS,flatSL,SV.cells,scS,b6]),hk⟩
 ·exact hk.elim
theorem btAC_ok:btAC.Ok Try.prog:=by
 refine ⟨by kernel_rfl,fun args k hk=>?_⟩
 simp only [btAC] at hk
 split at hk
 ·obtain ⟨T,⟨rfl,h⟩,hk⟩:=hk
  exact ⟨_,funN_does (ctrs_sound (by intro x hx; simp at hx; subst hx; exact vtB_ok _)) nil_x nil_ic mixed (btA_true h) (by simp [flatS,flatSL,SV.cells,scS,b6]),hk⟩
 ·exact hk.elim
end Go.Proofs.Ytpdcajchppoocaa
