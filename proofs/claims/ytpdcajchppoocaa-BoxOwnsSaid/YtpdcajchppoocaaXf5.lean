import Derived.Test.YtpdcajchppoocaaXf2XfV2Xf3XfV3Xf4Xf5a
import Derived.Test.YtpdcajchppoocaaXfV4
set_option linter.unusedVariables false
set_option linter.unusedSimpArgs false
set_option maxRecDepth 100000
namespace Go.Proofs.Ytpdcajchppoocaa
open Go Go.Lg
attribute [local irreducible] bodyH
theorem owG_true {T:Tn} {w:Nat→Bool} (h:okR T w) (hc:(seP T).c=true):owG T w (fsA T w (coL T)) (fsA T w (coH T 0)):=by
 rw [owG_vc]
 simp only [owG0,owG1,owG2,owG3,owG4,owG5,owG6,owG7,owG8,owG9,owG10,owG11,owG12,owG13,owG14,owG15,owG16,owG17,owG18,owG19,owG20,owG21,owG22,owG23,owG24,owG25,owG26,owG27,rI,rE,tt3,tt4,tt5,tt13,tt14,rI,rE,tt3,tt4,tt5,tt13,tt14,and_true,true_and,Nat.zero_lt_one,and_self,implies_true,Int.toNat_natCast,Nat.zero_add,Nat.add_zero,Nat.one_mul,Nat.mul_one,Classical.not_not,iff_self,Bool.false_eq_true,imp_false,and_imp,true_implies,forall_const,Nat.not_lt_zero,if_false,Nat.sub_zero,false_and,false_or,not_false_eq_true,not_true_eq_false,false_implies,ite_self]
 have hl:=h.t.nl
 have hnb:=h.t.nb
 have hw:=h.w
 have hb:=(se_bd h.t).1
 refine ⟨T,rfl,fun g1 g2=>⟨by omega,T,w,⟨rfl,rfl,h⟩,T,w,⟨rfl,rfl⟩,T,w,⟨rfl,h.t⟩,T,w,⟨rfl,h.t,by omega,by omega⟩,by omega,by omega,by omega,by omega,⟨0,by omega,rfl,rfl,rfl,fun i hi=>rfl,rfl,fun i hi=>rfl,rfl,rfl,rfl,fun i hi=>⟨rfl,rfl⟩⟩,fun z hz=>⟨fun hl=>⟨by omega,by omega,by omega,by omega,by omega,hl,by omega,by omega,by omega,z+1,by omega,by omega,by omega,fun i hi=>⟨pu_i (loA T w) z i,pu_i (hiA T w) z i⟩⟩,fun hl=>?_⟩⟩⟩
 obtain rfl:z=T.nl:=by omega
 refine ⟨Nat.le_refl _,by omega,by omega,⟨0,by omega,rfl,fun i hi=>⟨ng_0 hi,if_pos hi⟩,fun i hi=>⟨if_pos hi,if_pos hi⟩⟩,fun z hz=>⟨fun hl=>⟨by omega,hl,by omega,by omega,by omega,z+1,by omega,by omega,by omega,fun i hi=>ng_st _ _ _⟩,fun hl=>?_⟩⟩
 obtain rfl:z=T.nl:=by omega
 refine ⟨T,w,⟨rfl,rfl,h⟩,T,w,⟨rfl,rfl⟩,T,w,⟨rfl,h.t⟩,T,w,⟨rfl,h.t,by omega,by omega⟩,by omega,by omega,by omega,by omega,⟨0,?_⟩,fun z hz=>⟨fun hl=>?_,fun hl=>?_⟩⟩
 ·and_intros
  all_goals first | rfl | omega | exact fun i hi=>rfl | exact fun i hi=>⟨rfl,rfl,rfl,rfl,⟨fun e=>e.elim,fun e=>(Nat.not_lt_zero _ e.1).elim⟩⟩
 ·have hz5:z<5:=by omega
  exact ⟨by omega,by omega,by omega,by omega,by omega,by omega,by omega,by omega,by omega,by omega,by omega,by omega,by omega,hl,by omega,by omega,by omega,z+1,by omega,by omega,by omega,fun i hi=>⟨pu_x (c_bx _ hz5) i,pu_x (c_fo _ hz5) i,pu_x (c_fo _ hz5) i,pu_x (c_rv _ hz5) i,ot_st⟩⟩
 obtain rfl:z=T.nb:=by omega
 refine ⟨⟨0,by omega,rfl,fun i hi=>⟨ng_0 hi,if_pos hi,if_pos hi,if_pos hi,⟨fun h=>h.2,fun h=>⟨hi,h⟩⟩⟩⟩,fun z hz=>⟨fun hl=>⟨by omega,hl,by omega,by omega,by omega,z+1,by omega,by omega,by omega,fun i hi=>⟨ng_st _ _ _,or_same⟩⟩,fun hl=>?_⟩⟩
 obtain rfl:z=T.nb:=by omega
 refine ⟨T,⟨rfl,⟨fun _=>trivial,fun _=>h.t⟩⟩,T,⟨rfl,h.t,hc⟩,by omega,by omega,by omega,by omega,⟨0,by omega,rfl,fun i hi=>rfl,rfl,rfl,fun i hi=>⟨fun e=>e.elim,fun e=>(Nat.not_lt_zero _ e.1).elim⟩⟩,fun z hz=>⟨fun hlt=>⟨by omega,by omega,hlt,by omega,by omega,by omega,z+1,by omega,by omega,by omega,fun i hi=>bt_step (by omega) (.inr trivial) (bit_tb (by omega) (by omega))⟩,fun hlt=>?_⟩⟩
 refine ⟨⟨0,by omega,rfl,fun i hi=>cj_0 (by omega)⟩,fun z hz=>⟨fun hlt=>⟨by omega,hlt,by omega,by omega,hlt,by omega,by omega,by omega,z+1,by omega,by omega,by omega,fun i hi=>cj_step⟩,fun hlt=>?_⟩⟩
 obtain rfl:z=T.nl:=by omega
 refine ⟨T,w,⟨rfl,rfl⟩,T,w,⟨rfl,rfl,h⟩,T,w,⟨rfl,rfl⟩,T,w,⟨rfl,h.t⟩,T,w,⟨rfl,h.t,by omega,by omega⟩,by omega,by omega,by omega,by omega,⟨0,by omega,rfl,rfl,rfl,fun i hi=>rfl,rfl,fun i hi=>rfl,rfl,rfl,fun i hi=>Iff.rfl,rfl,fun i hi=>⟨rfl,rfl⟩⟩,fun z hz=>⟨fun hl=>⟨by omega,by omega,by omega,by omega,by omega,hl,by omega,by omega,by omega,z+1,by omega,by omega,by omega,fun i hi=>⟨pu_i (loA T w) z i,pu_i (hiA T w) z i⟩⟩,fun hl=>?_⟩⟩
 obtain rfl:z=T.nl:=by omega
 exact ⟨⟨0,by omega,rfl,fun i hi=>⟨if_pos hi,if_pos hi⟩⟩,fun z hz=>⟨fun hl=>⟨by omega,hl,by omega,by omega,hl,by omega,z+1,by omega,by omega,by omega⟩,fun hl=>⟨Nat.le_refl _,⟨T.nl,T.lo,T.hi,by omega,rfl⟩,Nat.le_refl _,⟨T.nl,w,by omega,by first | exact rfl | exact ⟨rfl,rfl⟩⟩,Nat.le_refl _,Nat.le_refl _,⟨T.nl,loA T w,hiA T w,by omega,rfl⟩⟩⟩⟩
theorem owF_true {T:Tn} {w:Nat→Bool} (h:okR T w) (hc:¬ (seP T).c=true):owF T w (fsA T w (coL T)) (fsA T w (coH T 0)):=by
 rw [owF_vc]
 simp only [owF0,owF1,owF2,owF3,owF4,owF5,owF6,owF7,owF8,owF9,owF10,owF11,owF12,owF13,owF14,owF15,owF16,owF17,owF18,owF19,rI,rE,tt3,tt4,tt5,tt13,tt14,rI,rE,tt3,tt4,tt5,tt13,tt14,and_true,true_and,Nat.zero_lt_one,and_self,implies_true,Int.toNat_natCast,Nat.zero_add,Nat.add_zero,Nat.one_mul,Nat.mul_one,Classical.not_not,iff_self,Bool.false_eq_true,imp_false,and_imp,true_implies,forall_const,Nat.not_lt_zero,if_false,Nat.sub_zero,false_and,false_or,not_false_eq_true,not_true_eq_false,false_implies,ite_self]
 have hl:=h.t.nl
 have hnb:=h.t.nb
 have hw:=h.w
 have hb:=(se_bd h.t).1
 refine ⟨T,rfl,fun g1 g2=>⟨by omega,T,w,⟨rfl,rfl,h⟩,T,w,⟨rfl,rfl⟩,T,w,⟨rfl,h.t⟩,T,w,⟨rfl,h.t,by omega,by omega⟩,by omega,by omega,by omega,by omega,⟨0,by omega,rfl,rfl,rfl,fun i hi=>rfl,rfl,fun i hi=>rfl,rfl,rfl,rfl,fun i hi=>⟨rfl,rfl⟩⟩,fun z hz=>⟨fun hl=>⟨by omega,by omega,by omega,by omega,by omega,hl,by omega,by omega,by omega,z+1,by omega,by omega,by omega,fun i hi=>⟨pu_i (loA T w) z i,pu_i (hiA T w) z i⟩⟩,fun hl=>?_⟩⟩⟩
 obtain rfl:z=T.nl:=by omega
 refine ⟨Nat.le_refl _,by omega,by omega,⟨0,by omega,rfl,fun i hi=>⟨ng_0 hi,if_pos hi⟩,fun i hi=>⟨if_pos hi,if_pos hi⟩⟩,fun z hz=>⟨fun hl=>⟨by omega,hl,by omega,by omega,by omega,z+1,by omega,by omega,by omega,fun i hi=>ng_st _ _ _⟩,fun hl=>?_⟩⟩
 obtain rfl:z=T.nl:=by omega
 refine ⟨T,w,⟨rfl,rfl,h⟩,T,w,⟨rfl,rfl⟩,T,w,⟨rfl,h.t⟩,T,w,⟨rfl,h.t,by omega,by omega⟩,by omega,by omega,by omega,by omega,⟨0,?_⟩,fun z hz=>⟨fun hl=>?_,fun hl=>?_⟩⟩
 ·and_intros
  all_goals first | rfl | omega | exact fun i hi=>rfl | exact fun i hi=>⟨rfl,rfl,rfl,rfl,⟨fun e=>e.elim,fun e=>(Nat.not_lt_zero _ e.1).elim⟩⟩
 ·have hz5:z<5:=by omega
  exact ⟨by omega,by omega,by omega,by omega,by omega,by omega,by omega,by omega,by omega,by omega,by omega,by omega,by omega,hl,by omega,by omega,by omega,z+1,by omega,by omega,by omega,fun i hi=>⟨pu_x (c_bx _ hz5) i,pu_x (c_fo _ hz5) i,pu_x (c_fo _ hz5) i,pu_x (c_rv _ hz5) i,ot_st⟩⟩
 obtain rfl:z=T.nb:=by omega
 refine ⟨⟨0,by omega,rfl,fun i hi=>⟨ng_0 hi,if_pos hi,if_pos hi,if_pos hi,⟨fun h=>h.2,fun h=>⟨hi,h⟩⟩⟩⟩,fun z hz=>⟨fun hl=>⟨by omega,hl,by omega,by omega,by omega,z+1,by omega,by omega,by omega,fun i hi=>⟨ng_st _ _ _,or_same⟩⟩,fun hl=>?_⟩⟩
 obtain rfl:z=T.nb:=by omega
 refine ⟨T,⟨rfl,fun e=>hc e.2⟩,by omega,fun _=>⟨T,w,⟨rfl,rfl⟩,T,w,⟨rfl,rfl,h⟩,T,w,⟨rfl,rfl⟩,T,w,⟨rfl,h.t⟩,T,w,⟨rfl,h.t,by omega,by omega⟩,by omega,by omega,by omega,by omega,⟨0,by omega,rfl,rfl,rfl,fun i hi=>rfl,rfl,fun i hi=>rfl,rfl,rfl,fun i hi=>rfl,rfl,fun i hi=>⟨rfl,rfl⟩⟩,fun z hz=>⟨fun hl=>⟨by omega,by omega,by omega,by omega,by omega,hl,by omega,by omega,by omega,z+1,by omega,by omega,by omega,fun i hi=>⟨pu_i (loA T w) z i,pu_i (hiA T w) z i⟩⟩,fun hl=>?_⟩⟩⟩
 obtain rfl:z=T.nl:=by omega
 exact ⟨⟨0,by omega,rfl,fun i hi=>⟨if_pos hi,if_pos hi⟩⟩,fun z hz=>⟨fun hl=>⟨by omega,hl,by omega,by omega,hl,by omega,z+1,by omega,by omega,by omega⟩,fun hl=>⟨Nat.le_refl _,⟨T.nl,T.lo,T.hi,by omega,rfl⟩,Nat.le_refl _,⟨T.nl,w,by omega,by first | exact rfl | exact ⟨rfl,rfl⟩⟩,Nat.le_refl _,Nat.le_refl _,⟨T.nl,loA T w,hiA T w,by omega,rfl⟩⟩⟩⟩
end Go.Proofs.Ytpdcajchppoocaa
