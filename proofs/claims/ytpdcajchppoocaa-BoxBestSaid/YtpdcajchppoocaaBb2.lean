/- BoxBest: the memo search finds the cheapest and first turns, as the enumeration does -/
import Derived.Test.YtpdcajchppoocaaRows
import Derived.Test.YtpdcajchppoocaaC12
import Derived.Test.YtpdcajchppoocaaC9
import Derived.Test.YtpdcajchppoocaaHgHgVHgV2HhHi
set_option linter.unusedVariables false
set_option linter.unusedSimpArgs false
set_option maxRecDepth 100000
namespace Go.Proofs.Ytpdcajchppoocaa
open Go.Lg Go.ChangeShapes Go.WideShapes Go.ChangeAt Go.RowKit
open Go
attribute [local irreducible] bodyH
theorem rbF_true {T:Tn} (hT:okT T) (hw:¬ (aB T (aO T).length).w):rbFG T:=by
 rw [rbFG_vc]
 simp only [rI,rE,tt3,tt4,tt5,tt13,tt14,and_true,true_and,Nat.zero_lt_one,and_self,implies_true,Int.toNat_natCast,Nat.zero_add,Nat.add_zero,Nat.one_mul,Nat.mul_one,Classical.not_not,iff_self,Bool.false_eq_true,imp_false,and_imp,true_implies,forall_const,Nat.not_lt_zero,if_false,Nat.sub_zero,false_and,false_or,not_false_eq_true,not_true_eq_false,false_implies]
 have hl:=hT.nl
 have hlen:=aO_le (T:=T) hl
 obtain ⟨z0,z1⟩:=aJ_0 (T:=T)
 refine ⟨T,rfl,fun h=>(h hT).elim,fun _=>⟨T,⟨rfl,by omega⟩,T.nl,[],zF,⟨rfl,rfl,by omega,by omega,by omega,by show (aO T).length≤_; omega⟩,⟨0,⟨by omega⟩,rfl,fun i hi=>rfl,rfl,z0.symm,z1.symm,rfl,rfl,fun i hi=>⟨rfl,fun j hj=>rfl⟩⟩,fun z hz=>⟨fun hlt=>⟨by omega,hlt,by omega,T,wB ((aO T).getD z zF),⟨rfl,by rw [Nat.zero_add]; exact tw_q,hT⟩,fun hv=>?_,fun hv=>⟨by omega,hlt,by omega,T,wB ((aO T).getD z zF),⟨rfl,by rw [Nat.zero_add]; exact tw_q,rfl,hT,hv⟩,fun hn=>?_,fun hn=>⟨fun hc=>?_,fun hc=>?_⟩⟩⟩,fun hlt hn=>?_⟩⟩⟩
 ·obtain ⟨e1,e2⟩:=aB_no (T:=T) (z:=z) fun e=>hv e.1
  exact ⟨by omega,z+1,⟨by omega⟩,by omega,e1.symm,e2.symm,by omega⟩
 ·obtain ⟨e1,e2⟩:=aB_yes (T:=T) (z:=z) hv (.inl (aJ_neg.1 hn))
  exact ⟨by omega,z+1,⟨by omega⟩,by omega,e1.symm,e2.symm,by omega⟩
 ·have hww:(aB T z).w:=Classical.byContradiction fun e=>hn (aJ_neg.2 e)
  rw [(aC_w hww).1] at hc
  obtain ⟨e1,e2⟩:=aB_yes (T:=T) (z:=z) hv (.inr hc)
  exact ⟨by omega,z+1,⟨by omega⟩,by omega,e1.symm,e2.symm,by omega⟩
 ·have hww:(aB T z).w:=Classical.byContradiction fun e=>hn (aJ_neg.2 e)
  rw [(aC_w hww).1] at hc
  obtain ⟨e1,e2⟩:=aB_no (T:=T) (z:=z) fun e=>e.2.elim (fun h=>h hww) hc
  exact ⟨by omega,z+1,⟨by omega⟩,by omega,e1.symm,e2.symm,by omega⟩
 ·have:=hz.u
  obtain rfl:z=(aO T).length:=by omega
  exact (hn (aJ_neg.2 hw)).elim
theorem rbA_true {T:Tn} (hT:¬ okT T):rbAG T:=by
 rw [rbAG_vc]
 simp only [rI,rE,tt3,tt4,tt5,tt13,tt14,and_true,true_and,Nat.zero_lt_one,and_self,implies_true,Int.toNat_natCast,Nat.zero_add,Nat.add_zero,Nat.one_mul,Nat.mul_one,Classical.not_not,iff_self,Bool.false_eq_true,imp_false,and_imp,true_implies,forall_const]
 exact ⟨T,rfl,hT⟩
theorem rb_cs:SoundS Try.prog (ctrsF [rnC,cnW,coW] (ctrs [trC])):=ctrsF_sound (ctrs_sound (by
 intro x hx
 simp only [List.mem_cons,List.not_mem_nil,or_false] at hx
 subst hx
 exact tr_ok)) (by
 intro x hx
 simp only [List.mem_cons,List.not_mem_nil,or_false] at hx
 rcases hx with rfl | rfl | rfl
 ·exact rn_ok
 ·exact cnW_ok
 ·exact coW_ok)
theorem rb_o:SoundO Try.prog (octrs [alO 24]):=octrs_sound (by
 intro x hx
 simp only [List.mem_cons,List.not_mem_nil,or_false] at hx
 subst hx
 exact alO_ok 24)
theorem tw_cg {n:Nat} {a b:Nat→Bool} (h:∀ i,i<n→a i=b i):(twL n a).den=(twL n b).den:=by
 simp only [twL,SV.den]; congr 1
 exact List.map_congr_left fun i hi=>by rw [h i (List.mem_range.1 hi)]
theorem rbC_ok:rbC.OkF Try.prog:=by
 refine ⟨by kernel_rfl,fun args k hk=>?_⟩
 simp only [rbC] at hk
 split at hk
 ·obtain ⟨T,⟨rfl,hT,hc⟩,hk⟩:=hk
  refine ⟨_,?_,hk⟩
  obtain ⟨e1,e2⟩:=best_eq hT hc
  have d:=funY_does rb_cs nil_x nil_ic rb_o mixed (rb_true hT ((best_w hT).1 hc))
  have e:(SV.tup [btV T,b6 (seP T).k,b6 0]).den=(SV.tup [twL T.nl (wB ((aO T).getD (aB T (aO T).length).j zF)),b6 (aC T (aO T).length),b6 0]).den:=by
   rw [e2]
   unfold btV
   simp only [SV.den,SV.denL]
   rw [tw_cg e1]
  rw [e]; exact d
 ·exact hk.elim
theorem rbN_ok:rbN.OkF Try.prog:=by
 refine ⟨by kernel_rfl,fun args k hk=>?_⟩
 simp only [rbN] at hk
 split at hk
 ·obtain ⟨T,⟨rfl,h⟩,hk⟩:=hk
  refine ⟨_,?_,hk⟩
  by_cases hT:okT T
  ·have hc:¬ (aB T (aO T).length).w:=fun e=>h ⟨hT,(best_w hT).2 e⟩
   rw [show bnE T=12 by unfold bnE; rw [if_pos hT]]
   exact funY_does rb_cs nil_x nil_ic rb_o mixed (rbF_true hT hc)
  ·rw [show bnE T=1 by unfold bnE; rw [if_neg hT]]
   exact funY_does (ctrs_sound (by intro x hx; simp at hx; subst hx; exact tr_ok)) nil_x nil_ic nil_o mixed (rbA_true hT)
 ·exact hk.elim
theorem boz_true:bozG:=by
 rw [bozG_vc]
 simp only [rI,rE,tt3,tt4,tt5,tt13,tt14,and_true,true_and,Nat.zero_lt_one,and_self,implies_true,Int.toNat_natCast,Nat.zero_add,Nat.add_zero,Nat.one_mul,Nat.mul_one,Classical.not_not,iff_self,Bool.false_eq_true,imp_false,and_imp,true_implies,forall_const]
 omega
theorem bozC_ok:bozC.Ok Try.prog:=by
 refine ⟨by kernel_rfl,fun args k hk=>?_⟩
 simp only [bozC] at hk
 split at hk
 ·exact ⟨_,Does.plain (funH_does nil_cs nil_x nil_ic mixed boz_true) trivial,hk⟩
 ·exact hk.elim
theorem bnC_ok:bnC.Ok Try.prog:=by
 refine ⟨by kernel_rfl,fun args k hk=>?_⟩
 simp only [bnC] at hk
 split at hk
 ·obtain ⟨T,⟨rfl,h⟩,hk⟩:=hk
  by_cases hT:okT T
  ·have hc:(seP T).c=false:=by
    cases hc:(seP T).c with
    | false=>rfl
    | true=>exact (h ⟨hT,hc⟩).elim
   obtain ⟨res,d,hr⟩:=btFC_ok.2 [tV T] (fun v=>v=.tup [.val (.slice none 0 0),b6 0,b6 12]) ⟨T,⟨rfl,hT,hc⟩,rfl⟩
   subst hr
   exact ⟨_,d,by rw [show bnE T=12 by unfold bnE; rw [if_pos hT]] at hk; exact hk⟩
  ·obtain ⟨res,d,hr⟩:=btAC_ok.2 [tV T] (fun v=>v=.tup [.val (.slice none 0 0),b6 0,b6 1]) ⟨T,⟨rfl,hT⟩,rfl⟩
   subst hr
   exact ⟨_,d,by rw [show bnE T=1 by unfold bnE; rw [if_neg hT]] at hk; exact hk⟩
 ·exact hk.elim
theorem bb_true {T:Tn} (hT:okT T) (hc:(seP T).c=true):bbG T:=by
 rw [bbG_vc]
 simp only [rI,rE,tt3,tt4,tt5,tt13,tt14,and_true,true_and,Nat.zero_lt_one,and_self,implies_true,Int.toNat_natCast,Nat.zero_add,Nat.add_zero,Nat.one_mul,Nat.mul_one,Classical.not_not,iff_self,Bool.false_eq_true,imp_false,and_imp,true_implies,forall_const]
 have hl:=hT.nl
 exact ⟨T,rfl,fun _=>⟨T,⟨rfl,hT,hc⟩,T,⟨rfl,hT,hc⟩,⟨T.nl,btB (seP T),by omega,rfl,rfl⟩,rfl⟩⟩
theorem bbN_true {T:Tn} (h:¬ (okT T∧(seP T).c=true)):bbN T:=by
 rw [bbN_vc]
 simp only [rI,rE,tt3,tt4,tt5,tt13,tt14,and_true,true_and,Nat.zero_lt_one,and_self,implies_true,Int.toNat_natCast,Nat.zero_add,Nat.add_zero,Nat.one_mul,Nat.mul_one,Classical.not_not,iff_self,Bool.false_eq_true,imp_false,and_imp,true_implies,forall_const]
 exact ⟨T,rfl,fun _=>⟨T,⟨rfl,h⟩,T,⟨rfl,h⟩,rfl⟩⟩
theorem boxBest_does (T:Tn):Does Try.prog 4 false (SV.denL [tV T]) (.sc (.bool true)):=by
 by_cases hb:okT T∧(seP T).c=true
 ·have hh:=bb_true hb.1 hb.2
  unfold bbG at hh
  refine funH_does (ctrsF_sound (ctrs_sound (by
   intro x hx
   simp only [List.mem_cons,List.not_mem_nil,or_false] at hx
   rcases hx with rfl | rfl | rfl | rfl
   ·exact gr_ok
   ·exact alv_ok
   ·exact btC_ok
   ·exact bosC_ok)) (by intro x hx; simp at hx; subst hx; exact rbC_ok)) nil_x nil_ic mixed hh
 ·have hh:=bbN_true hb
  unfold bbN at hh
  refine funH_does (ctrsF_sound (ctrs_sound (by
   intro x hx
   simp only [List.mem_cons,List.not_mem_nil,or_false] at hx
   rcases hx with rfl | rfl | rfl | rfl
   ·exact gr_ok
   ·exact alv_ok
   ·exact bnC_ok
   ·exact bozC_ok)) (by intro x hx; simp at hx; subst hx; exact rbN_ok)) nil_x nil_ic mixed hh
theorem boxBest_lifted (os:Os) (started:os.Started) (H:Type) (enc:TypeId × Value→H) :
  ReturnsInHanded {} Try.checked os 4 .any (Rows.boxBestSpec.pre6 enc Try.prog Try.f4 Rows.boxBestRow.domain false) (Rows.boxBestSpec.post enc Try.prog Try.f4 false true false false):=by
 refine returnsInHanded_of_change (C:=Try.checked) own started (by kernel_rfl) Try.func4
  (ChangeSpec.witness6 (enc:=enc) (C:=Try.checked) false ⟨#[],#[.agg #[.slice none 0 0,.int .i64 0,.int .i64 0,.int .i64 0,.int .i64 0,.int .i64 0,.slice none 0 0]],[]⟩ 4 (by kernel_rfl) (by kernel_rfl) (by kernel_rfl) (by kernel_rfl)) ?_
 intro W base args ds gs before hval0 hW hcnd _
 have hval:∀ (j:Nat) t v,Try.f4.params[j]?=some t→args[j]?=some v→Value.okWide Try.prog W .any base t v:=hval0
 have hW0:DataW.Whole enc Try.prog Try.f4.params.toList Rows.boxBestSpec.vars false W args.toList ds gs before:=hW
 obtain ⟨p,q,hA0,hV,rfl,hfz,hnd⟩:=hW
 have hA:DataW.TrodAll enc Try.prog W 0 (fun _=>true) true Try.f4.params.toList args.toList ds p:=hA0
 rw [Try.params4] at hA hval
 obtain ⟨v0,d0,rfl,rfl,h0⟩:=trodAll_one hA
 obtain ⟨rfl,rfl⟩:=trodVars_none hV
 obtain ⟨T,hr0⟩:=read_train (hval 0 25 v0 rfl rfl) h0
 have hd:=boxBest_does T
 refine law_calls laid (f:=4) (fn:=Try.f4) (tb:=4) (by
  rw [Try.params4]
  intro t ht
  simp at ht
  subst ht
  exact read25) rfl (by kernel_rfl) Try.underlying4 rfl hW0 ?_ hd
 exact RelL.mk hr0 RelL.mk_nil
theorem box_best_holds:Rows.BoxBestSaid :=
 OpenClaim.holds_of_wide 4 Try.f4 rfl rfl rfl rfl rfl rfl rfl ⟨rfl,rfl,rfl,rfl,rfl⟩ rfl rfl rfl rfl rfl (by kernel_rfl) Try.func4 (by kernel_rfl)
  (of_decide_eq_true (by kernel_rfl)) (by unfold Func.isWrapper; first | (rw [if_pos (by decide +kernel)]; kernel_rfl) | (rw [if_neg (by decide +kernel)]; exact ⟨rfl,rfl⟩))
  (fun os started H enc _=>boxBest_lifted os started H enc)
end Go.Proofs.Ytpdcajchppoocaa
