import Derived.Test.YtpdcajchppoocaaXb1XbV1Xb2Xb3Xb4XbV4
set_option linter.unusedVariables false
set_option linter.unusedSimpArgs false
set_option maxRecDepth 100000
namespace Go.Proofs.Ytpdcajchppoocaa
open Go Go.Lg
attribute [local irreducible] bodyH
section
variable {T:Tn} {w:Nat→Bool} {c:Nat→Int}
theorem rg_hd (hT:okT T) (h:Nat) (hh:h<T.nl):T.hi h=coH T 0 h:=by
 have:=hT.ld h hh
 show T.hi h=min (T.hi h+0) 10000
 omega
theorem rg_sl (h:okC T c) (hw:fwA T w=T.nl) {i:Nat} (hi:i<T.nl):slQ T w c i=slA T (tW w) c i:=by
 have hl:=h.t.nl
 exact sl_eqA h.t (by omega) (fun k hk=>(h.c k (by omega)).1) fun k hk=>fw_a (by omega)
theorem rg_lo2 (hT:okT T) (hw:fwA T w=T.nl) {i:Nat} (hi:i<T.nl):slQ T w T.lo i=loA T w i:=rg_sl (rg_lo hT) hw hi
theorem rg_hi2 (hT:okT T) (hw:fwA T w=T.nl) {i:Nat} (hi:i<T.nl):slQ T w T.hi i=hiA T w i:=by
 rw [rg_sl (rg_hi hT) hw hi]
 exact sl_eq fun h hh=>rg_hd hT h (by omega)
theorem rg_qa (h:okC T c) (hw:fwA T w=T.nl):eqQ T (stA T (tW w) c T.nl) (qA T w c T.nl)∧okS T (stA T (tW w) c T.nl):=by
 have hl:=h.t.nl
 have h1:∀ k,k<T.nl→0≤c k:=fun k hk=>(h.c k hk).1
 have h2:∀ k,k<T.nl→¬ wrA T (tW w) c k:=fun k hk=>fw_a (by omega)
 exact ⟨qa_eq h.t hl h1 h2,Go.Lg.st_ok h.t hl h1 h2⟩
end
theorem rr_true {T:Tn} {w:Nat→Bool} (h:okR T w):rrG T w:=by
 rw [rrG_vc]
 simp only [rI,rE,tt3,tt4,tt5,tt13,tt14,rI,rE,tt3,tt4,tt5,tt13,tt14,and_true,true_and,Nat.zero_lt_one,and_self,implies_true,Int.toNat_natCast,Nat.zero_add,Nat.add_zero,Nat.one_mul,Nat.mul_one,Classical.not_not,iff_self,Bool.false_eq_true,imp_false,and_imp,true_implies,forall_const]
 have hl:=h.t.nl
 refine ⟨T,rfl,fun hn=>(hn h.t).elim,fun _=>⟨fun hn=>(hn trivial).elim,T,⟨rfl,by omega⟩,T,w,T.lo,⟨rfl,rfl,rfl,rg_lo h.t,fun i hi=>rg_no (rg_lo h.t) (by rw [h.w]; exact hi)⟩,T,w,T.hi,⟨rfl,rfl,rfl,rg_hi h.t,fun i hi=>rg_no (rg_hi h.t) (by rw [h.w]; exact hi)⟩,⟨fun h0=>?_,fun h0=>?_⟩,fun z h1 h2=>⟨fun hz=>?_,fun hz=>?_⟩⟩⟩
 ·refine ⟨by omega,h0,by omega,h0,by omega,by omega,by omega,1,⟨by omega,by omega⟩,by omega,rfl,fun i hi=>rfl,rfl,rfl,fun i hi=>rfl,rfl,rfl,rfl,fun i hi=>?_⟩
  obtain rfl:i=0:=by omega
  exact ⟨rfl,rfl⟩
 ·exact ⟨by omega,rfl⟩
 ·refine ⟨by omega,hz,by omega,hz,by omega,by omega,by omega,z+1,⟨by omega,by omega⟩,by omega,rfl,by omega,rfl,fun i hi=>⟨up_if hi,up_if hi⟩⟩
 ·obtain rfl:z=T.nl:=by omega
  exact ⟨rfl,Nat.le_refl _,fun i hi=>⟨rg_lo2 h.t h.w hi,rg_hi2 h.t h.w hi⟩⟩
theorem rrB_true {T:Tn} {n:Nat} {w:Nat→Bool} (h:chE T n w≠0):rrB T n w:=by
 rw [rrB_vc]
 simp only [rI,rE,tt3,tt4,tt5,tt13,tt14,rI,rE,tt3,tt4,tt5,tt13,tt14,and_true,true_and,Nat.zero_lt_one,and_self,implies_true,Int.toNat_natCast,Nat.zero_add,Nat.add_zero,Nat.one_mul,Nat.mul_one,Classical.not_not,iff_self,Bool.false_eq_true,imp_false,and_imp,true_implies,forall_const]
 refine ⟨T,rfl,fun hn=>?_,fun hT=>⟨fun hn=>?_,fun hn=>?_⟩⟩
 ·obtain ⟨a,b⟩:=ch_bad (n:=n) (w:=w) hn
  exact ⟨a.symm,b.symm⟩
 ·obtain ⟨a,b⟩:=ch_len (n:=n) (w:=w) hT (fun e=>hn (by omega))
  exact ⟨a.symm,b.symm⟩
 ·have hn:n=T.nl:=by omega
  subst hn
  have hl:=hT.nl
  have hf:fwA T w<T.nl:=by
   apply Classical.byContradiction
   intro hf
   exact h (ch_good hT rfl hf).2
  obtain ⟨a,b⟩:=ch_fw (w:=w) hT rfl hf
  exact ⟨T,⟨rfl,by omega⟩,T,w,T.lo,fwA T w,⟨rfl,rfl,rfl,rg_lo hT,hf,rg_yes (rg_lo hT) hf,fun i hi=>rg_no (rg_lo hT) hi⟩,a.symm,b.symm⟩
theorem rr_cs:SoundS Try.prog (ctrs [trC]):=ctrs_sound (by intro x hx; simp at hx; subst hx; exact tr_ok)
theorem rrC_ok:rrC.OkF Try.prog:=by
 refine ⟨by kernel_rfl,fun args k hk=>?_⟩
 simp only [rrC] at hk
 split at hk
 ·obtain ⟨T,w,⟨rfl,hw,h⟩,hk⟩:=hk
  rw [hw]
  have hcs:SoundS Try.prog (ctrsF [rnC,coE] (ctrs [trC])):=ctrsF_sound rr_cs (by
   intro x hx
   simp only [List.mem_cons,List.not_mem_nil,or_false] at hx
   rcases hx with rfl | rfl
   ·exact rn_ok
   ·exact coE_ok)
  exact ⟨_,funY_does hcs nil_x nil_ic nil_o mixed (rr_true h),hk⟩
 ·exact hk.elim
theorem rrD_ok:rrD.OkF Try.prog:=by
 refine ⟨by kernel_rfl,fun args k hk=>?_⟩
 simp only [rrD] at hk
 split at hk
 ·obtain ⟨T,w,⟨rfl,hw,h⟩,hk⟩:=hk
  rw [hw]
  have hcs:SoundS Try.prog (ctrsF [rnC,coD] (ctrs [trC])):=ctrsF_sound rr_cs (by
   intro x hx
   simp only [List.mem_cons,List.not_mem_nil,or_false] at hx
   rcases hx with rfl | rfl
   ·exact rn_ok
   ·exact coD_ok)
  exact ⟨_,funY_does hcs nil_x nil_ic nil_o mixed (rrB_true h),hk⟩
 ·exact hk.elim
end Go.Proofs.Ytpdcajchppoocaa

set_option maxRecDepth 100000
namespace Go.Proofs.Ytpdcajchppoocaa
open Go Go.Lg
attribute [local irreducible] bodyH
theorem bs_true {T:Tn} {w:Nat→Bool} (h:okR T w):bsG T w:=by
 rw [bsG_vc]
 simp only [bsG0,bsG1,rI,rE,tt3,tt4,tt5,tt13,tt14,rI,rE,tt3,tt4,tt5,tt13,tt14,and_true,true_and,Nat.zero_lt_one,and_self,implies_true,Int.toNat_natCast,Nat.zero_add,Nat.add_zero,Nat.one_mul,Nat.mul_one,Classical.not_not,iff_self,Bool.false_eq_true,imp_false,and_imp,true_implies,forall_const]
 have hl:=h.t.nl
 have hnb:=h.t.nb
 refine ⟨T,w,⟨rfl,rfl,h⟩,fun hn=>(hn trivial).elim,T,⟨rfl,by omega⟩,T,w,T.lo,⟨rfl,rfl,rfl,rg_lo h.t,fun i hi=>rg_no (rg_lo h.t) (by rw [h.w]; exact hi)⟩,T,w,T.hi,⟨rfl,rfl,rfl,rg_hi h.t,fun i hi=>rg_no (rg_hi h.t) (by rw [h.w]; exact hi)⟩,?_⟩
 obtain ⟨eL,oL⟩:=rg_qa (w:=w) (rg_lo h.t) h.w
 obtain ⟨eH,oH⟩:=rg_qa (w:=w) (rg_hi h.t) h.w
 have sL:fsA T w (coL T)=stA T (tW w) T.lo T.nl:=fs_end h.w
 have sH:fsA T w (coH T 0)=stA T (tW w) T.hi T.nl:=by rw [fs_end h.w]; exact st_eq fun k hk=>(rg_hd h.t k hk).symm
 have sk:=st_sk (T:=T) (w:=tW w) (c:=T.lo) (d:=T.hi) T.nl
 rw [← sL,← sH] at sk
 rw [← sL] at eL oL
 rw [← sH] at eH oH
 generalize fsA T w (coL T)=L at eL oL sk ⊢
 generalize fsA T w (coH T 0)=H at eH oH sk ⊢
 generalize qA T w T.lo T.nl=A at eL ⊢
 generalize qA T w T.hi T.nl=B at eH ⊢
 have nL:=eL.n
 have nH:=eH.n
 have mL:=eL.nm
 have mH:=eH.nm
 have on:=oL.n
 have skn:=sk.n
 have loop2:∀ (z:Nat),z≤A.m→((z:Int)<A.m→0≤(z:Int)∧(z:Int)<A.m∧0≤(z:Int)∧(z:Int)<A.m∧(A.n+z+1)*40≤140737488355328∧A.n+z+1≤4611686018427387904∧(-9223372036854775808≤(z:Int)+1∧(z:Int)+1≤9223372036854775807) ∧
   ∃ z_1,z_1≤A.m∧A.m - z_1<A.m - z∧A.n+z+1=A.n+z_1∧(z:Int)+1=z_1∧A.n+z_1=A.n+z+1∧∀ (i:Nat),i<A.n+z_1→(if i<A.n+z then L.bx i else (A.O z).b)=L.bx i∧(if i<A.n+z then L.fo i else 0)=L.fo i ∧
    (if i<A.n+z then H.fo i else 0)=H.fo i∧(if i<A.n+z then L.rv i else (A.O z).r)=L.rv i∧(i<A.n+z∧L.n≤i∨¬i<A.n+z↔L.n≤i))∧(¬(z:Int)<A.m→A.n+z=T.nb∧T.nb≤A.n+z):=by
  refine fun z hz=>⟨fun hlt=>⟨by omega,hlt,by omega,hlt,by omega,by omega,by omega,z+1,by omega,by omega,by omega,by omega,by omega,fun i hi=>?_⟩,fun hlt=>by omega⟩
  by_cases e:i<A.n+z
  ·exact ⟨if_pos e,if_pos e,if_pos e,if_pos e,by simp [e]⟩
  ·have ei:i=A.n+z:=by omega
   have a:=eL.O z (by omega)
   have b:=eH.O z (by omega)
   have en:B.n=A.n:=by omega
   rw [en] at b
   rw [← ei] at a b
   simp only [if_neg e]
   refine ⟨a.1,a.2.2.1.symm,b.2.2.1.symm,a.2.2.2.1,?_⟩
   constructor
   ·intro _; omega
   ·intro _; exact .inr e
 refine ⟨⟨fun h0=>?_,fun h0=>by omega⟩,fun z h1 h2=>⟨fun hz=>?_,fun hz=>⟨⟨0,by omega,by omega,rfl,by omega,fun i hi=>?_⟩,loop2⟩⟩⟩
 ·refine ⟨by omega,h0,by omega,h0,by omega,by omega,by omega,h0,by omega,by omega,by omega,1,⟨by omega,by omega⟩,by omega,rfl,rfl,rfl,fun i hi=>rfl,rfl,fun i hi=>rfl,rfl,rfl,fun i hi=>rfl,rfl,fun i hi=>rfl,rfl,rfl,fun i hi=>?_⟩
  obtain rfl:i=0:=by omega
  exact ⟨rfl,rfl,rfl,rfl⟩
 ·refine ⟨by omega,hz,by omega,hz,by omega,by omega,by omega,hz,by omega,by omega,by omega,z+1,⟨by omega,by omega⟩,by omega,rfl,by omega,rfl,fun i hi=>⟨up_if (g:=fun i=>(A.S i).b) hi,up_if (g:=fun i=>(A.S i).f) hi,up_if (g:=fun i=>(B.S i).f) hi,up_if (g:=fun i=>(A.S i).r) hi,by simp⟩⟩
 ·have a:=eL.S i (by omega)
  have b:=eH.S i (by omega)
  refine ⟨a.1,a.2.1,b.2.1,a.2.2,?_⟩
  constructor
  ·intro e; exact e.elim
  ·intro e; omega
theorem bsB_true {T:Tn} {n:Nat} {w:Nat→Bool} (h:chE T n w≠0):bsB T n w:=by
 rw [bsB_vc]
 simp only [rI,rE,tt3,tt4,tt5,tt13,tt14,rI,rE,tt3,tt4,tt5,tt13,tt14,and_true,true_and,implies_true]
 exact ⟨by omega,T,w,⟨rfl,rfl,h⟩,fun _=>rfl,fun hn=>(hn h).elim⟩
noncomputable def bsC:Ctr:=⟨18,fun args k=>match args with
 | [x,.lst 1 n f]=>∃ (T:Tn) (w:Nat→Bool),(x=tV T∧SV.lst 1 n f=twL T.nl w∧okR T w)∧k (.tup [bdV T (fsA T w (coL T)) (fsA T w (coH T 0)),b6 0])
 | _=>False⟩
noncomputable def bsD:Ctr:=⟨18,fun args k=>match args with
 | [x,.lst 1 n f]=>∃ (T:Tn) (w:Nat→Bool),(x=tV T∧SV.lst 1 n f=twL n w∧chE T n w≠0)∧k (.tup [nlS,b6 (chE T n w)])
 | _=>False⟩
theorem bsC_ok:bsC.OkF Try.prog:=by
 refine ⟨by kernel_rfl,fun args k hk=>?_⟩
 simp only [bsC] at hk
 split at hk
 ·obtain ⟨T,w,⟨rfl,hw,h⟩,hk⟩:=hk
  rw [hw]
  have hcs:SoundS Try.prog (ctrsF [rnC,coE,rrC] (ctrs [])):=ctrsF_sound nil_cs (by
   intro x hx
   simp only [List.mem_cons,List.not_mem_nil,or_false] at hx
   rcases hx with rfl | rfl | rfl
   ·exact rn_ok
   ·exact coE_ok
   ·exact rrC_ok)
  exact ⟨_,funY_does hcs nil_x nil_ic nil_o mixed (bs_true h),hk⟩
 ·exact hk.elim
theorem bsD_ok:bsD.OkF Try.prog:=by
 refine ⟨by kernel_rfl,fun args k hk=>?_⟩
 simp only [bsD] at hk
 split at hk
 ·obtain ⟨T,w,⟨rfl,hw,h⟩,hk⟩:=hk
  rw [hw]
  have hcs:SoundS Try.prog (ctrsF [rrD] (ctrs [])):=ctrsF_sound nil_cs (by intro x hx; simp at hx; subst hx; exact rrD_ok)
  exact ⟨_,funY_does hcs nil_x nil_ic nil_o mixed (bsB_true h),hk⟩
 ·exact hk.elim
end Go.Proofs.Ytpdcajchppoocaa
