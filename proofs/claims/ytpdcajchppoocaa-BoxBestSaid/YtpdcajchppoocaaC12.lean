import Derived.Test.YtpdcajchppoocaaBaV3
import Derived.Test.YtpdcajchppoocaaC9
import Derived.Test.YtpdcajchppoocaaC10
import Derived.Test.YtpdcajchppoocaaXa1XaV1Xa2Xa3XaV3XaV4
import Derived.Test.YtpdcajchppoocaaHgHgVHgV2HhHi
set_option linter.unusedVariables false
set_option linter.unusedSimpArgs false
set_option maxRecDepth 100000
namespace Go.Proofs.Ytpdcajchppoocaa
open Go Go.Lg
attribute [local irreducible] bodyH
theorem tw_q {n:Nat} {p:Nat→Int}:(SV.lst 1 n fun q=>SV.dec (p q=1) inferInstance).den=(twL n (wB p)).den:=by
 simp only [twL,SV.den]; congr 1
 refine List.map_congr_left fun i hi=>?_
 have:(p i=1)↔wB p i=true:=by unfold wB; exact decide_eq_true_iff.symm
 exact congrArg AV.sc (congrArg Value.bool (decide_eq_decide.2 this))
theorem cnB_true {T:Tn} {w:Nat→Bool} (hT:okT T) (hw:fwA T w≠T.nl):cnBG T w:=by
 rw [cnBG_vc]
 simp only [rI,rE,tt3,tt4,tt5,tt13,tt14,and_true,true_and,Nat.zero_lt_one,and_self,implies_true,Int.toNat_natCast,Nat.zero_add,Nat.add_zero,Nat.one_mul,Nat.mul_one,Classical.not_not,iff_self,Bool.false_eq_true,imp_false,and_imp,true_implies,forall_const]
 have hl:=hT.nl
 have hd:=fw_d (T:=T) (w:=w)
 have hf:fwA T w<T.nl:=by omega
 exact ⟨T,⟨rfl,by omega⟩,T,w,T.hi,fwA T w,⟨rfl,rfl,rfl,rg_hi hT,hf,rg_yes (rg_hi hT) hf,fun i hi=>rg_no (rg_hi hT) hi⟩,by omega⟩
theorem cnW_ok:cnW.OkF Try.prog:=by
 refine ⟨by kernel_rfl,fun args k hk=>?_⟩
 simp only [cnW] at hk
 split at hk
 ·rename_i x n f
  obtain ⟨T,w,⟨rfl,hw,hT⟩,hk⟩:=hk
  have ea:SV.denL [tV T,SV.lst 1 n f]=SV.denL [tV T,twL T.nl w]:=by simp only [SV.denL,hw]
  rw [ea]
  refine ⟨_,?_,hk⟩
  by_cases h:fwA T w=T.nl
  ·obtain ⟨res,d,hr⟩:=cn_ok.2 [tV T,twL T.nl w] (fun v=>v=.dec (clP T w 0) (Classical.propDecidable _)) ⟨T,w,⟨rfl,rfl,hT,h⟩,rfl⟩
   subst hr
   rw [show (SV.dec (clW T w) (Classical.propDecidable _)).den=(SV.dec (clP T w 0) (Classical.propDecidable _)).den from dn_den ⟨fun e=>e.b,fun e=>⟨h,e⟩⟩]
   exact d
  ·have hcs:SoundS Try.prog (ctrsF [rnC,coD] (ctrs [])):=ctrsF_sound nil_cs (by
    intro x hx
    simp only [List.mem_cons,List.not_mem_nil,or_false] at hx
    rcases hx with rfl | rfl
    ·exact rn_ok
    ·exact coD_ok)
   rw [show (SV.dec (clW T w) (Classical.propDecidable _)).den=(SV.bool false).den from dec_den ⟨fun e=>(h e.a).elim,fun e=>nomatch e⟩]
   exact funY_does hcs nil_x nil_ic nil_o mixed (cnB_true hT h)
 ·exact hk.elim
theorem coW_ok:coW.OkF Try.prog:=by
 refine ⟨by kernel_rfl,fun args k hk=>?_⟩
 simp only [coW] at hk
 split at hk
 ·rename_i x n f m g
  obtain ⟨T,w,⟨rfl,hw,hg,hT,hc⟩,hk⟩:=hk
  have ea:SV.denL [tV T,SV.lst 1 n f,SV.lst 1 m g]=SV.denL [tV T,twL T.nl w,SV.lst 1 T.nl fun j=>b6 (T.hi j)]:=by rw [hg]; simp only [SV.denL,hw]
  rw [ea]
  obtain ⟨res,d,hr⟩:=coE_ok.2 [tV T,twL T.nl w,SV.lst 1 T.nl fun j=>b6 (T.hi j)] (fun v=>v=coR T w T.hi) ⟨T,w,T.hi,⟨rfl,rfl,rfl,rg_hi hT,fun i hi=>rg_no (rg_hi hT) (by rw [hc.a]; exact hi)⟩,rfl⟩
  subst hr
  exact ⟨_,d,hk⟩
 ·exact hk.elim
theorem aJ_neg {T:Tn} {z:Nat}:aJ T z<0↔¬ (aB T z).w:=by
 unfold aJ
 by_cases h:(aB T z).w
 ·rw [if_pos h]; exact ⟨fun e=>by omega,fun e=>(e h).elim⟩
 ·rw [if_neg h]; exact ⟨fun _=>h,fun _=>by omega⟩
theorem aB_yes {T:Tn} {z:Nat} (hv:aV T z) (h:¬ (aB T z).w∨aS T z<aS T (aB T z).j):aJ T (z+1)=z∧aC T (z+1)=aS T z:=by
 have e:aB T (z+1)=⟨True,z⟩:=bsQ_yes ⟨hv,h⟩
 unfold aJ aC
 rw [e,if_pos trivial,if_pos trivial]; exact ⟨rfl,rfl⟩
theorem aB_no {T:Tn} {z:Nat} (h:¬ (aV T z∧(¬ (aB T z).w∨aS T z<aS T (aB T z).j))):aJ T (z+1)=aJ T z∧aC T (z+1)=aC T z:=by
 have e:aB T (z+1)=aB T z:=bsQ_no h
 unfold aJ aC
 rw [e]; exact ⟨rfl,rfl⟩
theorem aC_w {T:Tn} {z:Nat} (h:(aB T z).w):aC T z=aS T (aB T z).j∧aJ T z=(aB T z).j:=by
 unfold aJ aC; rw [if_pos h,if_pos h]; exact ⟨rfl,rfl⟩
theorem aO_len {T:Tn}:(aO T).length=2 ^ T.nl:=lsB_len _ _
theorem aO_le {T:Tn} (h:T.nl≤16):(aO T).length≤65536:=by
 rw [aO_len]
 exact Nat.pow_le_pow_right (by omega) h
theorem aJ_0 {T:Tn}:aJ T 0=-1∧aC T 0=0:=by
 have e:¬ (aB T 0).w:=fun h=>h
 unfold aJ aC
 rw [if_neg e,if_neg e]; exact ⟨rfl,rfl⟩
theorem rb_true {T:Tn} (hT:okT T) (hw:(aB T (aO T).length).w):rbG T:=by
 rw [rbG_vc]
 simp only [rI,rE,tt3,tt4,tt5,tt13,tt14,and_true,true_and,Nat.zero_lt_one,and_self,implies_true,Int.toNat_natCast,Nat.zero_add,Nat.add_zero,Nat.one_mul,Nat.mul_one,Classical.not_not,iff_self,Bool.false_eq_true,imp_false,and_imp,true_implies,forall_const,Nat.not_lt_zero,if_false,Nat.sub_zero,false_and,false_or,not_false_eq_true,not_true_eq_false,false_implies]
 have hl:=hT.nl
 have hlen:=aO_le (T:=T) hl
 obtain ⟨z0,z1⟩:=aJ_0 (T:=T)
 refine ⟨T,rfl,fun h=>(h hT).elim,fun _=>⟨T,⟨rfl,by omega⟩,T.nl,[],zF,⟨rfl,rfl,by omega,by omega,by omega,by show (aO T).length≤_; omega⟩,⟨0,⟨by omega⟩,rfl,fun i hi=>rfl,rfl,z0.symm,z1.symm,rfl,rfl,fun i hi=>⟨rfl,fun j hj=>rfl⟩⟩,fun z hz=>⟨fun hlt=>⟨by omega,hlt,by omega,T,wB ((aO T).getD z zF),⟨rfl,by rw [Nat.zero_add]; exact tw_q,hT⟩,fun hv=>?_,fun hv=>⟨by omega,hlt,by omega,T,wB ((aO T).getD z zF),⟨rfl,by rw [Nat.zero_add]; exact tw_q,rfl,hT,hv⟩,fun hn=>?_,fun hn=>⟨fun hc=>?_,fun hc=>?_⟩⟩⟩,fun hlt=>⟨fun hn=>?_,fun hn=>?_⟩⟩⟩⟩
 ·obtain ⟨e1,e2⟩:=aB_no (T:=T) (z:=z) fun e=>hv e.1
  exact ⟨by omega,z+1,⟨by omega⟩,by omega,e1.symm,e2.symm,by omega⟩
 ·obtain ⟨e1,e2⟩:=aB_yes (T:=T) (z:=z) hv (.inl (aJ_neg.1 hn))
  exact ⟨by omega,z+1,⟨by omega⟩,by omega,e1.symm,e2.symm,by omega⟩
 ·have hww:(aB T z).w:=Classical.byContradiction fun e=>hn (aJ_neg.2 e)
  rw [(aC_w hww).1] at hc
  obtain ⟨e1,e2⟩:=aB_yes (T:=T) (z:=z) hv (.inr hc)
  exact ⟨by omega,z+1,⟨by omega⟩,by omega,e1.symm,e2.symm,by omega⟩
 ·have hww:(aB T z).w:=Classical.byContradiction fun e=>hn (aJ_neg.2 e)
  rw [(aC_w hww).1] at hc
  obtain ⟨e1,e2⟩:=aB_no (T:=T) (z:=z) fun e=>e.2.elim (fun h=>h hww) hc
  exact ⟨by omega,z+1,⟨by omega⟩,by omega,e1.symm,e2.symm,by omega⟩
 ·have:=hz.u
  obtain rfl:z=(aO T).length:=by omega
  exact (aJ_neg.1 hn hw).elim
 ·have:=hz.u
  obtain rfl:z=(aO T).length:=by omega
  obtain ⟨e1,e2⟩:=aC_w hw
  have hj:(aB T (aO T).length).j<(aO T).length:=by
   rcases bsQ_inv (aV T) (aS T) (aO T).length with ⟨h1,_⟩ | ⟨_,h2,_⟩
   ·exact (h1 hw).elim
   ·exact h2
  have e3:(aJ T (aO T).length).toNat=(aB T (aO T).length).j:=by omega
  refine ⟨by omega,by omega,by omega,fun i hi=>?_,rfl⟩
  rw [e3,Nat.zero_add]
  exact dn_den (by unfold wB; exact decide_eq_true_iff.symm)
end Go.Proofs.Ytpdcajchppoocaa

set_option maxRecDepth 100000
namespace Go.Proofs.Ytpdcajchppoocaa
open Go Go.Lg
attribute [local irreducible] bodyH
end Go.Proofs.Ytpdcajchppoocaa

set_option maxRecDepth 100000
namespace Go.Proofs.Ytpdcajchppoocaa
open Go Go.Lg
end Go.Proofs.Ytpdcajchppoocaa

set_option maxRecDepth 100000
namespace Go.Proofs.Ytpdcajchppoocaa
open Go Go.Lg
end Go.Proofs.Ytpdcajchppoocaa

set_option maxRecDepth 100000
namespace Go.Proofs.Ytpdcajchppoocaa
open Go Go.Lg
attribute [local irreducible] bodyH
section
variable {T:Tn} {w:Nat→Bool} {c:Nat→Int}
theorem q_n (h:okC T c) (hw:fwA T w=T.nl) {z:Nat} (hz:z≤T.nl):eqQ T (stA T (tW w) c z) (qA T w c z)∧okS T (stA T (tW w) c z):=by
 have hl:=h.t.nl
 have h1:∀ k,k<z→0≤c k:=fun k hk=>(h.c k (by omega)).1
 have h2:∀ k,k<z→¬ wrA T (tW w) c k:=fun k hk=>fw_a (by omega)
 exact ⟨qa_eq h.t (by omega) h1 h2,Go.Lg.st_ok h.t (by omega) h1 h2⟩
end
end Go.Proofs.Ytpdcajchppoocaa

set_option maxRecDepth 100000
namespace Go.Proofs.Ytpdcajchppoocaa
open Go Go.Lg
attribute [local irreducible] bodyH
theorem q_cost {T:Tn} {w:Nat→Bool} (hT:okT T) (hw:fwA T w=T.nl):∀ z,z≤T.nl→(qA T w T.hi z).c=ctA T w T.hi z
 | 0,_=>rfl
 | z+1,hz=>by
  have ih:=q_cost hT hw z (by omega)
  obtain ⟨e,ok⟩:=q_n (rg_hi hT) hw (z:=z) (by omega)
  have hn:=e.n
  have h1:=ok.n
  have s0:S1 (qA T w T.hi z) 0=(qA T w T.hi z).S 0:=by unfold S1; rw [if_pos (by omega)]
  have hr:((qA T w T.hi z).S 0).r=(stA T (tW w) T.hi z).rv 0:=(e.S 0 (by omega)).2.2
  have hc:(cbS T.nb (stA T (tW w) T.hi z)).rv 0=(stA T (tW w) T.hi z).rv 0:=by unfold cbS; split <;> rfl
  show (wtQ T (qA T w T.hi z) z (w z)).c=ctA T w T.hi z+if w z=true then coS T (cbS T.nb (stA T (tW w) T.hi z)) else 0
  cases hwz:w z with
  | false=>show (qA T w T.hi z).c=_; rw [ih]; simp
  | true =>
   show (qA T w T.hi z).c+(if (S1 (qA T w T.hi z) 0).r<T.rv then T.wo else T.ti)=_
   rw [ih,s0,hr,if_pos rfl]; unfold coS; rw [hc]
theorem cl_gd {T:Tn} {w:Nat→Bool} (hT:okT T):clW T w↔∀ k,k<T.nl→gdA T w T.hi k:=by
 constructor
 ·intro h k hk
  refine ⟨fun e=>?_,fun e=>?_⟩
  ·exact fw_a (T:=T) (w:=w) (by rw [h.a]; exact hk) e
  ·refine h.b.a k (by rw [h.a]; exact hk) ?_
   have:slA T (tW w) (coH T 0) k=slA T (tW w) T.hi k:=sl_eq fun j hj=>(rg_hd hT j (by omega)).symm
   rw [this]; exact e
 ·intro h
  have hf:fwA T w=T.nl:=by
   have hd:=fw_d (T:=T) (w:=w)
   apply Classical.byContradiction
   intro hn
   have hlt:fwA T w<T.nl:=by omega
   have h1:=rg_yes (rg_hi hT) hlt
   have hl:=hT.nl
   exact (h _ hlt).1 ((wr_eq hT (by omega) (fun k hk=>by have:=hT.ld k (by omega); omega) (fun k hk=>(h k (by omega)).1)).1 h1)
  refine ⟨hf,⟨fun k hk e=>?_⟩⟩
  rw [hf] at hk
  have:slA T (tW w) (coH T 0) k=slA T (tW w) T.hi k:=sl_eq fun j hj=>(rg_hd hT j (by omega)).symm
  rw [this] at e
  exact (h k hk).2 e
theorem cl_rn {T:Tn} {w:Nat→Bool} (hT:okT T) {c:Int}:rnS T w T.nl (beS T)=some c↔clW T w∧c=ctA T w T.hi T.nl:=by
 have h:=rn_st (T:=T) (w:=w) T.nl 0 (by omega) c
 have z:ctA T w T.hi 0=0:=rfl
 rw [z] at h
 refine h.trans ⟨fun e=>⟨(cl_gd hT).2 fun k hk=>e.1 k (Nat.zero_le _) hk,by omega⟩,fun e=>⟨fun k _ hk=>(cl_gd hT).1 e.1 k hk,by omega⟩⟩
theorem cl_congr {T:Tn} {w v:Nat→Bool} (hT:okT T) (h:∀ i,i<T.nl→w i=v i) (hw:clW T w):clW T v∧ctA T v T.hi T.nl=ctA T w T.hi T.nl:=by
 have h1:=(cl_rn (w:=w) hT (c:=_)).2 ⟨hw,rfl⟩
 rw [rn_w (v:=v) T.nl (beS T) (Int.le_refl _) fun i _ hi=>h i (by have:(beS T).h.toNat=0:=rfl; omega)] at h1
 obtain ⟨h2,h3⟩:=(cl_rn hT).1 h1
 exact ⟨h2,h3.symm⟩
theorem loc01:locQ (fun _ _=>0) (fun _ _=>1):=fun _ _ _ _=>⟨rfl,rfl⟩
theorem ao_mem {T:Tn} {x:Nat→Int} (h:x ∈ aO T) {i:Nat} (hi:i<T.nl):0≤x i∧x i≤1:=(lsQ_mem loc01 T.nl zF x (Nat.le_refl _) h).2.1 i (by omega) hi
theorem ao_of {T:Tn} (w:Nat→Bool):∃ i,i<(aO T).length∧∀ k,k<T.nl→wB ((aO T).getD i zF) k=w k:=by
 obtain ⟨x,hx,h⟩:=lsQ_of (lo:=fun _ _=>0) (hi:=fun _ _=>1) (F:=fun _=>True) (m:=T.nl) loc01 (q:=fun k=>if w k=true then 1 else 0) (fun _ _=>trivial) T.nl zF (Nat.le_refl _) (fun i hi=>by omega) (fun i _ _=>by split <;> omega)
 obtain ⟨i,hi,e⟩:=getD_of hx
 refine ⟨i,hi,fun k hk=>?_⟩
 have hk:=h k hk
 show decide ((List.getD (lsQ _ _ _ _ _ _) i zF) k=1)=w k
 rw [e,hk]
 cases w k <;> simp
theorem aS_ct {T:Tn} (hT:okT T) {i:Nat} (h:aV T i):aS T i=ctA T (wB ((aO T).getD i zF)) T.hi T.nl:=q_cost hT h.a _ (Nat.le_refl _)
theorem best_w {T:Tn} (hT:okT T):(seP T).c=true↔(aB T (aO T).length).w:=by
 obtain ⟨s1,s2⟩:=se_best (T:=T) hT.nb.2
 constructor
 ·intro hc
  obtain ⟨i,hi,hw⟩:=ao_of (T:=T) (btB (seP T))
  have hv:aV T i:=(cl_congr hT (fun k hk=>(hw k hk).symm) ((cl_gd hT).2 (s1 hc).1)).1
  rcases bsQ_inv (aV T) (aS T) (aO T).length with ⟨_,_,h3⟩ | ⟨h1,_⟩
  ·exact (h3 i hi hv).elim
  ·exact h1
 ·intro hw
  rcases bsQ_inv (aV T) (aS T) (aO T).length with ⟨h1,_⟩ | ⟨_,_,h3,_⟩
  ·exact (h1 hw).elim
  ·exact (s2 _ ((cl_gd hT).1 h3)).1
theorem best_eq {T:Tn} (hT:okT T) (hc:(seP T).c=true):(∀ k,k<T.nl→wB ((aO T).getD (aB T (aO T).length).j zF) k=btB (seP T) k)∧aC T (aO T).length=(seP T).k:=by
 obtain ⟨s1,s2⟩:=se_best (T:=T) hT.nb.2
 obtain ⟨g1,g2⟩:=s1 hc
 have hww:=(best_w hT).1 hc
 obtain ⟨i,hi,hw⟩:=ao_of (T:=T) (btB (seP T))
 obtain ⟨hv,hct⟩:=cl_congr (v:=wB ((aO T).getD i zF)) hT (fun k hk=>(hw k hk).symm) ((cl_gd hT).2 g1)
 have hv:aV T i:=hv
 have hsi:aS T i=(seP T).k:=by rw [aS_ct hT hv,hct]; exact g2.symm
 rw [(aC_w hww).1]
 rcases bsQ_inv (aV T) (aS T) (aO T).length with ⟨h1,_⟩ | ⟨_,h2,h3,h4⟩
 ·exact (h1 hww).elim
 have h3':aV T (aB T (aO T).length).j:=h3
 have h2':(aB T (aO T).length).j<(aO T).length:=h2
 have a1:aS T (aB T (aO T).length).j≤aS T i:=(h4 i hi hv).1
 have a2:i<(aB T (aO T).length).j→aS T (aB T (aO T).length).j<aS T i:=(h4 i hi hv).2
 obtain ⟨_,b1⟩:=s2 _ ((cl_gd hT).1 h3')
 rw [← aS_ct hT h3'] at b1
 have b1:(seP T).k<aS T (aB T (aO T).length).j∨(seP T).k=aS T (aB T (aO T).length).j∧lxQ 0 T.nl (btB (seP T)) (wB ((aO T).getD (aB T (aO T).length).j zF)):=b1
 generalize (aB T (aO T).length).j=j at *
 have ej:j=i:=by
  apply Classical.byContradiction
  intro hne
  rcases b1 with b1 | ⟨b1,b2⟩
  ·omega
  ·by_cases hij:i<j
   ·have:=a2 hij; omega
   ·have hji:j<i:=by omega
    have hlx:lexQ T.nl ((aO T).getD j zF) ((aO T).getD i zF):=getD_pair (lsQ_lex loc01 T.nl zF (Nat.le_refl _)) hji hi
    obtain ⟨q,q1,q2,q3⟩:=hlx
    have m1:=ao_mem (getD_mem (O:=aO T) (i:=j) (by omega)) q1
    have m2:=ao_mem (getD_mem (O:=aO T) hi) q1
    have wj:wB ((aO T).getD j zF) q=false:=by unfold wB; exact decide_eq_false (by omega)
    have wi:btB (seP T) q=true:=by rw [← hw q q1]; unfold wB; exact decide_eq_true (by omega)
    rcases b2 with b2 | ⟨r,r0,r1,r2,r3,r4⟩
    ·have:=b2 q (by omega) (by omega)
     rw [wj,wi] at this; cases this
    ·have r1:r<T.nl:=by omega
     by_cases c1:r<q
     ·have h5:=q2 r c1
      rw [← hw r r1] at r3
      unfold wB at r3 r4
      rw [h5] at r4
      rw [r4] at r3; cases r3
     ·by_cases c2:q<r
      ·have:=r2 q (by omega) c2
       rw [wj,wi] at this; cases this
      ·obtain rfl:r=q:=by omega
       rw [wi] at r3; cases r3
 subst ej
 exact ⟨hw,hsi⟩
end Go.Proofs.Ytpdcajchppoocaa

set_option maxRecDepth 100000
namespace Go.Proofs.Ytpdcajchppoocaa
open Go Go.Lg
attribute [local irreducible] bodyH
end Go.Proofs.Ytpdcajchppoocaa

set_option maxRecDepth 100000
namespace Go.Proofs.Ytpdcajchppoocaa
open Go Go.Lg
attribute [local irreducible] bodyH
noncomputable def bnE (T:Tn):Int:=open Classical in if okT T then 12 else 1
noncomputable def bnC:Ctr:=⟨21,fun args k=>match args with
 | [x]=>∃ T:Tn,(x=tV T∧¬ (okT T∧(seP T).c=true))∧k (.tup [nlS,b6 0,b6 (bnE T)])
 | _=>False⟩
end Go.Proofs.Ytpdcajchppoocaa

set_option maxRecDepth 100000
namespace Go.Proofs.Ytpdcajchppoocaa
open Go Go.Lg
attribute [local irreducible] bodyH
noncomputable def rbC:Ctr:=⟨22,fun args k=>match args with
 | [x]=>∃ T:Tn,(x=tV T∧okT T∧(seP T).c=true)∧k (.tup [btV T,b6 (seP T).k,b6 0])
 | _=>False⟩
noncomputable def rbN:Ctr:=⟨22,fun args k=>match args with
 | [x]=>∃ T:Tn,(x=tV T∧¬ (okT T∧(seP T).c=true))∧k (.tup [nlS,b6 0,b6 (bnE T)])
 | _=>False⟩
def bozC:Ctr:=⟨23,fun args k=>match args with
 | [.val (.slice none 0 0),.val (.slice none 0 0)]=>k (.bool true)
 | _=>False⟩
noncomputable def bozG:Prop:=funH Try.prog (ctrs []) noX (ictrs []) (oneL 0 (unrH 1)) noL 23 [nlS,nlS] (.bool true)
noncomputable def bbG (T:Tn):Prop:=funH Try.prog (ctrsF [rbC] (ctrs [grC,alvC,btC,bosC])) noX (ictrs []) noL noL 4 [tV T] (.bool true)
noncomputable def bbN (T:Tn):Prop:=funH Try.prog (ctrsF [rbN] (ctrs [grC,alvC,bnC,bozC])) noX (ictrs []) noL noL 4 [tV T] (.bool true)
end Go.Proofs.Ytpdcajchppoocaa

set_option maxRecDepth 100000
namespace Go.Proofs.Ytpdcajchppoocaa
open Go Go.Lg
local notation "N0"=>(0:Nat)
theorem bozG_vc :bozG =((¬(↑N0:Int)=(↑N0:Int)→false=true∧True)∧(¬¬(↑N0:Int)=(↑N0:Int)→((0:Int)<(↑N0:Int)→False)∧(¬(0:Int)<(↑N0:Int)→true=true∧True))):=by kernel_rfl
theorem bbG_vc (T:Tn):bbG T=(N0<(1:Nat)∧(∀ (i:Nat),i<T.1→True∧True∧True∧True)∧(∀ (i:Nat),i<T.10→True∧True∧True)∧∃ T_1,tV T=tV T_1∧((7:Int)<(↑T_1.nl:Int)∧T_1.nl≤(16:Nat)∨(24:Nat)<T_1.nl∨(9:Nat)<T_1.nb→rE true∧True)∧(¬((7:Int)<(↑T_1.nl:Int)∧T_1.nl≤(16:Nat)∨(24:Nat)<T_1.nl∨(9:Nat)<T_1.nb)→N0<(1:Nat)∧(∀ (i:Nat),i<T.1→True∧True∧True∧True)∧(∀ (i:Nat),i<T.10→True∧True∧True)∧∃ T_2,(tV T=tV T_2∧okT T_2∧(seP T_2).1=true)∧N0<(1:Nat) ∧
(∀ (i:Nat),i<T.1→True∧True∧True∧True)∧(∀ (i:Nat),i<T.10→True∧True∧True)∧∃ T_3,(tV T=tV T_3∧okT T_3∧(seP T_3).1=true)∧(∀ (i:Nat),i<T_2.10→True)∧(∀ (i:Nat),i<T_3.10→True)∧(∃ (n:Nat) (a:Nat→Bool),n≤(1000000:Nat)∧(SV.lst (1:Nat) T_2.nl fun h=>SV.dec (btB (seP T_2) h=true) inferInstance).den=(twL n a).den∧(SV.lst (1:Nat) T_3.nl fun h=>SV.dec (btB (seP T_3) h=true) inferInstance).den=(twL n a).den)∧((seP T_2).3=(seP T_3).3→(rE (0:Int)→rE true∧True)∧(¬(0:Int)=(0:Int)→false=true∧True)) ∧
(¬(seP T_2).3=(seP T_3).3→false=true∧True))):=by kernel_rfl
theorem bbN_vc (T:Tn):bbN T=(N0<(1:Nat)∧(∀ (i:Nat),i<T.1→True∧True∧True∧True)∧(∀ (i:Nat),i<T.10→True∧True∧True)∧∃ T_1,tV T=tV T_1∧((7:Int)<(↑T_1.nl:Int)∧T_1.nl≤(16:Nat)∨(24:Nat)<T_1.nl∨(9:Nat)<T_1.nb→rE true∧True)∧(¬((7:Int)<(↑T_1.nl:Int)∧T_1.nl≤(16:Nat)∨(24:Nat)<T_1.nl∨(9:Nat)<T_1.nb)→N0<(1:Nat)∧(∀ (i:Nat),i<T.1→True∧True∧True∧True)∧(∀ (i:Nat),i<T.10→True∧True∧True)∧∃ T_2,(tV T=tV T_2∧¬(okT T_2∧(seP T_2).1=true))∧N0<(1:Nat)
∧ (∀ (i:Nat),i<T.1→True∧True∧True∧True)∧(∀ (i:Nat),i<T.10→True∧True∧True)∧∃ T_3,(tV T=tV T_3∧¬(okT T_3∧(seP T_3).1=true))∧(rE (0:Int)→(bnE T_2=bnE T_3→rE true∧True)∧(¬bnE T_2=bnE T_3→false=true∧True))∧(¬(0:Int)=(0:Int)→false=true∧True))):=by kernel_rfl
end Go.Proofs.Ytpdcajchppoocaa

set_option maxRecDepth 100000
namespace Go.Proofs.Ytpdcajchppoocaa
open Go Go.Lg
end Go.Proofs.Ytpdcajchppoocaa

set_option maxRecDepth 100000
namespace Go.Proofs.Ytpdcajchppoocaa
open Go Go.Lg
attribute [local irreducible] bodyH
end Go.Proofs.Ytpdcajchppoocaa
