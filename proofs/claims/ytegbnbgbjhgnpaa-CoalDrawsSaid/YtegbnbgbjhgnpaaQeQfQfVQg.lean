import Derived.Test.YtegbnbgbjhgnpaaQcQcVQd
set_option linter.unusedVariables false
set_option linter.unusedSimpArgs false
set_option maxRecDepth 100000
namespace Go.Proofs.Ytegbnbgbjhgnpaa
open Go Go.Lg
attribute [local irreducible] funS bodyH
theorem ls_true (M:Ms):lsG M:=by
 rw [lsG_vc]
 simp only [rI,rE,and_true,true_and,Nat.zero_lt_one,and_self,implies_true]
theorem ls_ok:lsC.OkF Try.prog:=by
 refine ⟨by kernel_rfl,fun x k hk=>?_⟩
 simp only [lsC] at hk
 split at hk
 ·rename_i n f
  obtain ⟨hf,hk⟩:=hk
  have hh:=ls_true (msOf n f)
  unfold lsG at hh
  refine ⟨_,?_,hk⟩
  have:=funH_does nilS_cs nilS_x nilS_ic mixed hh
  rw [← hf] at this ⊢
  exact this
 ·exact hk.elim
theorem cm_true {a b:Tw} (h:rI (min a.hi b.hi - max a.lo b.lo)):cmG a b:=by
 rw [cmG_vc]
 simp only [rI] at h
 simp only [rI,rE,and_true,true_and,Nat.zero_lt_one,and_self,implies_true]
 exact ⟨h,rfl⟩
theorem cm_ok:cmC.Ok Try.prog:=by
 refine ⟨by kernel_rfl,fun x k hk=>?_⟩
 simp only [cmC] at hk
 split at hk
 ·rename_i a b c d
  obtain ⟨h,hk⟩:=hk
  exact ⟨_,plainD nilS_cs nilS_x nilS_ic (cm_true (a:=⟨a,b⟩) (b:=⟨c,d⟩) h) trivial,hk⟩
 ·exact hk.elim
theorem po_y {M:Ms} {s:Tw} {k:Nat} (h:0<cmT s (lyF M k).st):poM M s (k+1)=poM M s k ++ [⟨lyF M k,k,cmT s (lyF M k).st⟩]:=by simp only [poM,poL,if_pos h]
theorem po_n {M:Ms} {s:Tw} {k:Nat} (h:¬ 0<cmT s (lyF M k).st):poM M s (k+1)=poM M s k:=by simp only [poM,poL,if_neg h]
theorem po_le {M:Ms} {s:Tw}:∀ k,(poM M s k).length≤k
 | 0=>by simp [poM,poL]
 | k+1=>by
  have:=po_le (M:=M) (s:=s) k
  by_cases h:0<cmT s (lyF M k).st
  ·rw [po_y h]; simp; omega
  ·rw [po_n h]; omega
theorem getD_snoc {α:Type} {l:List α} {x d:α} {i:Nat} (h:i<l.length+1):(l ++ [x]).getD i d=if i<l.length then l.getD i d else x:=by
 by_cases e:i<l.length
 ·rw [if_pos e]; simp [List.getD,List.getElem?_append_left e]
 ·have:i=l.length:=by omega
  subst this
  rw [if_neg e]; simp [List.getD]
theorem ly_mem {M:Ms} {j:Nat} (h:j<(lyL M M.n).length):lyF M j ∈ lyL M M.n:=by
 unfold lyF
 rw [List.getD,List.getElem?_eq_getElem h]
 exact List.getElem_mem h
theorem po_true {M:Ms} {s:Tw} (h:lyP M) (hs:-1000000000≤s.lo∧s.lo≤1000000000∧-1000000000≤s.hi∧s.hi≤1000000000):poG M s:=by
 rw [poG_vc]
 simp only [rI,rE,tt3,tt4,tt5,tt13,tt14,and_true,true_and,Nat.zero_lt_one,and_self,implies_true,Int.toNat_natCast,Nat.zero_add,Nat.add_zero,Nat.one_mul,Nat.mul_one,Classical.not_not,iff_self,Bool.false_eq_true,imp_false,and_imp,true_implies,forall_const,ms_fold,cl_fold,mv_fold,cv_fold]
 have hn:=h.n
 refine ⟨h,⟨0,⟨rfl,by omega⟩,rfl,rfl⟩,fun j hj z hz hj2=>?_,fun z hz _=>?_⟩
 ·subst hz
  have b:=(cu_bd h M.n (by omega)).2 _ (ly_mem hj)
  have bf:=b.f
  have bt:=b.t
  have pl:=po_le (M:=M) (s:=s) z
  have le:=ly_le (M:=M) M.n
  have e0:(cmT ⟨s.lo,s.hi⟩ ⟨(lyF M z).fr,(lyF M z).to⟩)=cmT s (lyF M z).st:=rfl
  rw [e0]
  refine ⟨by omega,fun hp=>?_,fun hp=>?_⟩
  ·have e:=po_y hp
   have el:(poM M s (z+1)).length=(poM M s z).length+1:=by rw [e]; simp
   refine ⟨by omega,by omega,z+1,⟨rfl,by omega⟩,el.symm,el,fun i hi=>?_⟩
   rw [e,getD_snoc (by omega)]
   by_cases k:i<(poM M s z).length
   ·simp only [if_pos k]; exact ⟨trivial,trivial,trivial,trivial,trivial,trivial,trivial,trivial,trivial,trivial⟩
   ·simp only [if_neg k]; exact ⟨trivial,trivial,trivial,trivial,trivial,trivial,trivial,trivial,trivial,trivial⟩
  ·have e:=po_n hp
   refine ⟨z+1,⟨rfl,by omega⟩,by rw [e],by rw [e],fun i hi=>?_⟩
   rw [e]; exact ⟨rfl,rfl,rfl,rfl,rfl,rfl,rfl,rfl,rfl,rfl⟩
 ·subst hz
  exact ⟨rfl,by omega,fun i hi=>⟨rfl,rfl,rfl,rfl,rfl,rfl,rfl,rfl,rfl,rfl⟩⟩
theorem po_ok:poC.Ok Try.prog:=by
 refine ⟨by kernel_rfl,fun x k hk=>?_⟩
 simp only [poC] at hk
 split at hk
 ·rename_i n f a b
  obtain ⟨hf,h,hs,hk⟩:=hk
  have hh:=po_true (M:=msOf n f) (s:=⟨a,b⟩) h hs
  unfold poG at hh
  rw [← hf] at hh
  refine ⟨_,newD (ctrsF_sound (one_cs cm_ok) (by intro y hy; simp at hy; subst hy; exact ls_ok)) nilS_x (ictrs_sound (by intro x hx; simp at hx; subst hx; exact li_ok)) hh (by simp [flatS,flatSL,scS,SV.cells,lP,Pn.sv]),hk⟩
 ·exact hk.elim
theorem pa_true {n:Nat} {f:Nat→Pn} (hn:n≤1000):paG n f:=by
 rw [paG_vc]
 simp only [rI,rE,tt3,tt4,tt5,tt13,tt14,and_true,true_and,Nat.zero_lt_one,and_self,implies_true,Int.toNat_natCast,Nat.zero_add,Nat.add_zero,Nat.one_mul,Nat.mul_one,Classical.not_not,iff_self,Bool.false_eq_true,imp_false,and_imp,true_implies,forall_const]
 refine ⟨⟨0,by omega,rfl,rfl,rfl⟩,fun z hz=>⟨fun hl=>⟨by omega,hl,by omega,by omega,by omega,z+1,by omega,by omega,rfl,by omega,rfl,fun i hi=>?_⟩,fun hl=>⟨by omega,by omega⟩⟩⟩
 by_cases k:i<z
 ·simp only [if_pos k]; exact ⟨trivial,trivial⟩
 ·have:i=z:=by omega
  subst this; simp only [if_neg k]; exact ⟨trivial,trivial⟩
theorem pa_ok:paC.Ok Try.prog:=by
 refine ⟨by kernel_rfl,fun x k hk=>?_⟩
 simp only [paC] at hk
 split at hk
 ·rename_i n f
  obtain ⟨hf,hn,hk⟩:=hk
  have hh:=pa_true (f:=fun i=>pnOf (f i)) hn
  unfold paG at hh
  rw [← hf] at hh
  exact ⟨_,newD nilS_cs nilS_x nilS_ic hh (by simp [flatS,flatSL,scS,SV.cells,ptL,Pt.sv]),hk⟩
 ·exact hk.elim
end Go.Proofs.Ytegbnbgbjhgnpaa

namespace Go.Proofs.Ytegbnbgbjhgnpaa
open Go Go.Lg
attribute [local irreducible] bodyH funS
noncomputable def lyN (M:Ms):Nat:=(lyL M M.n).length
noncomputable def poS' (M:Ms) (s:Tw):List Pn:=poM M s (lyN M)
open Classical in
noncomputable def dwL (Y:Yd) (a:Int):List Pn:=if drE Y a a=0 then poS' Y.m (drS Y a a) else []
noncomputable def lT (l:List Pn):SV:=ptL l.length fun i=>(l.getD i zP).pt
noncomputable def dwR (Y:Yd) (a:Int):SV:=.tup [lT (dwL Y a),i6 (drE Y a a)]
noncomputable def csD:CSpec:=ctrs [drC,poC,paC,ckC,unC]
noncomputable def dwC:Ctr:=⟨11,fun args k=>match args with
 | [.agg [.lst 8 n f,.lst 3 m g],.int .i64 a]=>SV.lst 8 n f=(clOf n f).sv∧SV.lst 3 m g=(msOf m g).sv∧k (dwR ⟨clOf n f,msOf m g⟩ a)
 | _=>False⟩
noncomputable def dwG (Y:Yd) (a:Int):Prop:=funH Try.prog csD noX (ictrs []) noL noL 11 [Y.sv,i6 a] (dwR Y a)
open Classical in
noncomputable def lfL (Y:Yd):List Pn:=if ckY Y=0 then poS' Y.m (udS Y.m Y.m.n) else []
noncomputable def lfR (Y:Yd):SV:=.tup [lT (lfL Y),i6 (ckY Y)]
noncomputable def lfC:Ctr:=⟨13,fun args k=>match args with
 | [.agg [.lst 8 n f,.lst 3 m g]]=>SV.lst 8 n f=(clOf n f).sv∧SV.lst 3 m g=(msOf m g).sv∧k (lfR ⟨clOf n f,msOf m g⟩)
 | _=>False⟩
noncomputable def lfG (Y:Yd):Prop:=funH Try.prog csD noX (ictrs []) noL noL 13 [Y.sv] (lfR Y)
def La.at (l:La) (i:Nat):Int:=cellZ l.sv.cells i
structure okP (p:Pn):Prop where
 l:bdLa 33554432 p.l
 t:0≤p.tn∧p.tn≤33554432
noncomputable def twL (n:Nat) (f:Nat→Tw):SV:=.lst 2 n fun i=>(f i).sv
end Go.Proofs.Ytegbnbgbjhgnpaa

set_option maxRecDepth 100000
namespace Go.Proofs.Ytegbnbgbjhgnpaa
open Go Go.Lg
theorem dwG_vc (Y:Yd) (a:Int):dwG Y a =
((0:Nat)<(1:Nat)∧(∀ (i:Nat),i<Y.c.1→True∧True∧True∧True∧True∧True∧True∧True∧True)∧(∀ (i:Nat),i<Y.m.1→True∧True∧True∧True)∧(SV.lst (8:Nat) Y.c.n fun i=>(Y.c.f i).sv)=(clOf Y.c.n fun i=>(Y.c.f i).sv).sv∧(SV.lst (3:Nat) Y.m.n fun i=>(Y.m.f i).sv)=(msOf Y.m.n fun i=>(Y.m.f i).sv).sv∧(¬drE (Yd.mk (clOf Y.c.n fun i=>(Y.c.f i).sv) (msOf Y.m.n fun i=>(Y.m.f i).sv)) a a=(0:Int)→(0:Nat)=(dwL Y a).length∧drE (Yd.mk (clOf Y.c.n fun i=>(Y.c.f i).sv) (msOf Y.m.n fun i=>(Y.m.f i).sv)) a a=drE Y a a∧True)∧(¬¬drE (Yd.mk (clOf Y.c.n fun i=>(Y.c.f i).sv) (msOf Y.m.n fun i=>(Y.m.f i).sv)) a a=(0:Int)→(0:Nat)<(1:Nat)∧(0:Nat)<(1:Nat)∧(∀ (i:Nat),i<Y.m.1→True∧True∧True∧True)∧(SV.lst (3:Nat) Y.m.n fun i=>(Y.m.f i).sv)=(msOf Y.m.n fun i=>(Y.m.f i).sv).sv∧lyP (msOf Y.m.n
fun i=>(Y.m.f i).sv)∧((-1000000000:Int)≤(drS (Yd.mk (clOf Y.c.n fun i=>(Y.c.f i).sv) (msOf Y.m.n fun i=>(Y.m.f i).sv)) a a).1∧(drS (Yd.mk (clOf Y.c.n fun i=>(Y.c.f i).sv) (msOf Y.m.n fun i=>(Y.m.f i).sv)) a a).1≤(1000000000:Int)∧(-1000000000:Int)≤(drS (Yd.mk (clOf Y.c.n fun i=>(Y.c.f i).sv) (msOf Y.m.n fun i=>(Y.m.f i).sv)) a a).2∧(drS (Yd.mk (clOf Y.c.n fun i=>(Y.c.f i).sv) (msOf Y.m.n fun i=>(Y.m.f i).sv)) a a).2≤(1000000000:Int))∧(∀ (i:Nat),i<(poM (msOf Y.m.n fun i=>(Y.m.f i).sv) (Tw.mk (drS (Yd.mk (clOf Y.c.n fun i=>(Y.c.f i).sv) (msOf Y.m.n fun i=>(Y.m.f i).sv)) a a).lo (drS (Yd.mk (clOf Y.c.n fun i=>(Y.c.f i).sv) (msOf Y.m.n fun i=>(Y.m.f i).sv)) a a).hi) (lyL (msOf Y.m.n fun i=>(Y.m.f i).sv) Y.m.n).length).length→True∧True∧True∧True∧True∧True∧True∧True∧True∧True∧True)∧((SV.lst (10:Nat) (poM
(msOf Y.m.n fun i=>(Y.m.f i).sv) (Tw.mk (drS (Yd.mk (clOf Y.c.n fun i=>(Y.c.f i).sv) (msOf Y.m.n fun i=>(Y.m.f i).sv)) a a).lo (drS (Yd.mk (clOf Y.c.n fun i=>(Y.c.f i).sv) (msOf Y.m.n fun i=>(Y.m.f i).sv)) a a).hi) (lyL (msOf Y.m.n fun i=>(Y.m.f i).sv) Y.m.n).length).length fun i=>((poM (msOf Y.m.n fun i=>(Y.m.f i).sv) (Tw.mk (drS (Yd.mk (clOf Y.c.n fun i=>(Y.c.f i).sv) (msOf Y.m.n fun i=>(Y.m.f i).sv)) a a).lo (drS (Yd.mk (clOf Y.c.n fun i=>(Y.c.f i).sv) (msOf Y.m.n fun i=>(Y.m.f i).sv)) a a).hi) (lyL (msOf Y.m.n fun i=>(Y.m.f i).sv) Y.m.n).length).getD i zP).sv)=SV.lst (10:Nat) (poM (msOf Y.m.n fun i=>(Y.m.f i).sv) (Tw.mk (drS (Yd.mk (clOf Y.c.n fun i=>(Y.c.f i).sv) (msOf Y.m.n fun i=>(Y.m.f i).sv)) a a).lo (drS (Yd.mk (clOf Y.c.n fun i=>(Y.c.f i).sv) (msOf Y.m.n fun i=>(Y.m.f i).sv)) a a).hi) (lyL (msOf Y.m.n fun i=>(Y.m.f i).sv)
Y.m.n).length).length fun i=>(pnOf ((poM (msOf Y.m.n fun i=>(Y.m.f i).sv) (Tw.mk (drS (Yd.mk (clOf Y.c.n fun i=>(Y.c.f i).sv) (msOf Y.m.n fun i=>(Y.m.f i).sv)) a a).lo (drS (Yd.mk (clOf Y.c.n fun i=>(Y.c.f i).sv) (msOf Y.m.n fun i=>(Y.m.f i).sv)) a a).hi) (lyL (msOf Y.m.n fun i=>(Y.m.f i).sv) Y.m.n).length).getD i zP).sv).sv)∧(poM (msOf Y.m.n fun i=>(Y.m.f i).sv) (Tw.mk (drS (Yd.mk (clOf Y.c.n fun i=>(Y.c.f i).sv) (msOf Y.m.n fun i=>(Y.m.f i).sv)) a a).lo (drS (Yd.mk (clOf Y.c.n fun i=>(Y.c.f i).sv) (msOf Y.m.n fun i=>(Y.m.f i).sv)) a a).hi) (lyL (msOf Y.m.n fun i=>(Y.m.f i).sv) Y.m.n).length).length≤(1000:Nat)∧(poM (msOf Y.m.n fun i=>(Y.m.f i).sv) (Tw.mk (drS (Yd.mk (clOf Y.c.n fun i=>(Y.c.f i).sv) (msOf Y.m.n fun i=>(Y.m.f i).sv)) a a).lo (drS (Yd.mk (clOf Y.c.n fun i=>(Y.c.f i).sv) (msOf Y.m.n fun i=>(Y.m.f i).sv)) a a).hi) (lyL (msOf Y.m.n
fun i=>(Y.m.f i).sv) Y.m.n).length).length=(dwL Y a).length∧(∀ (i:Nat),i<(dwL Y a).length→(pnOf ((poM (msOf Y.m.n fun i=>(Y.m.f i).sv) (Tw.mk (drS (Yd.mk (clOf Y.c.n fun i=>(Y.c.f i).sv) (msOf Y.m.n fun i=>(Y.m.f i).sv)) a a).lo (drS (Yd.mk (clOf Y.c.n fun i=>(Y.c.f i).sv) (msOf Y.m.n fun i=>(Y.m.f i).sv)) a a).hi) (lyL (msOf Y.m.n fun i=>(Y.m.f i).sv) Y.m.n).length).getD i zP).sv).pt.sv.den=((dwL Y a).getD i zP).pt.sv.den∧True∧True∧True)∧(0:Int)=drE Y a a∧True)):=by kernel_rfl
theorem lfG_vc (Y:Yd):lfG Y =
((0:Nat)<(1:Nat)∧(∀ (i:Nat),i<Y.c.1→True∧True∧True∧True∧True∧True∧True∧True∧True)∧(∀ (i:Nat),i<Y.m.1→True∧True∧True∧True)∧(SV.lst (8:Nat) Y.c.n fun i=>(Y.c.f i).sv)=(clOf Y.c.n fun i=>(Y.c.f i).sv).sv∧(SV.lst (3:Nat) Y.m.n fun i=>(Y.m.f i).sv)=(msOf Y.m.n fun i=>(Y.m.f i).sv).sv∧(¬ckY (Yd.mk (clOf Y.c.n fun i=>(Y.c.f i).sv) (msOf Y.m.n fun i=>(Y.m.f i).sv))=(0:Int)→(0:Nat)=(lfL Y).length∧ckY (Yd.mk (clOf Y.c.n fun i=>(Y.c.f i).sv) (msOf Y.m.n fun i=>(Y.m.f i).sv))=ckY Y∧True)∧(¬¬ckY (Yd.mk (clOf Y.c.n fun i=>(Y.c.f i).sv) (msOf Y.m.n fun i=>(Y.m.f i).sv))=(0:Int)→(0:Nat)<(1:Nat)∧(0:Nat)<(1:Nat)∧(∀ (i:Nat),i<Y.m.1→True∧True∧True∧True)∧(SV.lst (3:Nat) Y.m.n fun i=>(Y.m.f i).sv)=(msOf Y.m.n fun i=>(Y.m.f i).sv).sv∧(∃ c,okMs c (msOf Y.m.n fun i =>
(Y.m.f i).sv))∧(∀ (i:Nat),i<Y.m.1→True∧True∧True∧True)∧(SV.lst (3:Nat) Y.m.n fun i=>(Y.m.f i).sv)=(msOf Y.m.n fun i=>(Y.m.f i).sv).sv∧lyP (msOf Y.m.n fun i=>(Y.m.f i).sv)∧((-1000000000:Int)≤sumJ (uoI (msOf Y.m.n fun i=>(Y.m.f i).sv)) Y.m.1∧sumJ (uoI (msOf Y.m.n fun i=>(Y.m.f i).sv)) Y.m.1≤(1000000000:Int)∧(-1000000000:Int)≤sumJ (uaI (msOf Y.m.n fun i=>(Y.m.f i).sv)) Y.m.1∧sumJ (uaI (msOf Y.m.n fun i=>(Y.m.f i).sv)) Y.m.1≤(1000000000:Int))∧(∀ (i:Nat),i<(poM (msOf Y.m.n fun i=>(Y.m.f i).sv) (Tw.mk (udS (msOf Y.m.n fun i=>(Y.m.f i).sv) Y.m.n).lo (udS (msOf Y.m.n fun i=>(Y.m.f i).sv) Y.m.n).hi) (lyL (msOf Y.m.n fun i=>(Y.m.f i).sv) Y.m.n).length).length→True∧True∧True∧True∧True∧True∧True∧True∧True∧True∧True)∧((SV.lst (10:Nat) (poM (msOf Y.m.n fun i=>(Y.m.f i).sv) (Tw.mk (udS (msOf Y.m.n
fun i=>(Y.m.f i).sv) Y.m.n).lo (udS (msOf Y.m.n fun i=>(Y.m.f i).sv) Y.m.n).hi) (lyL (msOf Y.m.n fun i=>(Y.m.f i).sv) Y.m.n).length).length fun i=>((poM (msOf Y.m.n fun i=>(Y.m.f i).sv) (Tw.mk (udS (msOf Y.m.n fun i=>(Y.m.f i).sv) Y.m.n).lo (udS (msOf Y.m.n fun i=>(Y.m.f i).sv) Y.m.n).hi) (lyL (msOf Y.m.n fun i=>(Y.m.f i).sv) Y.m.n).length).getD i zP).sv)=SV.lst (10:Nat) (poM (msOf Y.m.n fun i=>(Y.m.f i).sv) (Tw.mk (udS (msOf Y.m.n fun i=>(Y.m.f i).sv) Y.m.n).lo (udS (msOf Y.m.n fun i=>(Y.m.f i).sv) Y.m.n).hi) (lyL (msOf Y.m.n fun i=>(Y.m.f i).sv) Y.m.n).length).length fun i=>(pnOf ((poM (msOf Y.m.n fun i=>(Y.m.f i).sv) (Tw.mk (udS (msOf Y.m.n fun i=>(Y.m.f i).sv) Y.m.n).lo (udS (msOf Y.m.n fun i=>(Y.m.f i).sv) Y.m.n).hi) (lyL (msOf Y.m.n fun i=>(Y.m.f i).sv) Y.m.n).length).getD i zP).sv).sv)∧(poM (msOf Y.m.n fun i=>(Y.m.f i).sv) (Tw.mk (udS
(msOf Y.m.n fun i=>(Y.m.f i).sv) Y.m.n).lo (udS (msOf Y.m.n fun i=>(Y.m.f i).sv) Y.m.n).hi) (lyL (msOf Y.m.n fun i=>(Y.m.f i).sv) Y.m.n).length).length≤(1000:Nat)∧(poM (msOf Y.m.n fun i=>(Y.m.f i).sv) (Tw.mk (udS (msOf Y.m.n fun i=>(Y.m.f i).sv) Y.m.n).lo (udS (msOf Y.m.n fun i=>(Y.m.f i).sv) Y.m.n).hi) (lyL (msOf Y.m.n fun i=>(Y.m.f i).sv) Y.m.n).length).length=(lfL Y).length∧(∀ (i:Nat),i<(lfL Y).length→(pnOf ((poM (msOf Y.m.n fun i=>(Y.m.f i).sv) (Tw.mk (udS (msOf Y.m.n fun i=>(Y.m.f i).sv) Y.m.n).lo (udS (msOf Y.m.n fun i=>(Y.m.f i).sv) Y.m.n).hi) (lyL (msOf Y.m.n fun i=>(Y.m.f i).sv) Y.m.n).length).getD i zP).sv).pt.sv.den=((lfL Y).getD i zP).pt.sv.den∧True∧True∧True)∧(0:Int)=ckY Y∧True)):=by kernel_rfl
end Go.Proofs.Ytegbnbgbjhgnpaa

set_option maxRecDepth 100000
namespace Go.Proofs.Ytegbnbgbjhgnpaa
open Go Go.Lg
attribute [local irreducible] funS bodyH
theorem lyP_of {c:Int} {M:Ms} (h:okMs c M) (hc:c≤6):lyP M:=⟨h.n,fun i hi=>by
 have m:=h.h i hi
 have:=m.c0
 have:=m.c1
 exact ⟨by omega,by omega,m.t0,m.t1⟩⟩
theorem drE_ck {Y:Yd} {a b:Int} (h:drE Y a b=0):ckY Y=0:=by
 apply Classical.byContradiction
 intro hn
 rw [drE_e hn] at h
 exact hn h
theorem ck_ly {Y:Yd} (h:ckY Y=0):lyP Y.m:=by
 obtain ⟨h1,h2,h3⟩:=ck_0 h
 have:=h1.b
 exact lyP_of h2 (by omega)
theorem drS_bd (Y:Yd) (a b:Int):-1000000000≤(drS Y a b).lo∧(drS Y a b).lo≤1000000000∧-1000000000≤(drS Y a b).hi∧(drS Y a b).hi≤1000000000:=by
 by_cases h:drE Y a b=0
 ·obtain ⟨h1,h2,h3⟩:=ck_0 (drE_ck h)
  rw [drS_y h]
  have b1:=ds_bd h2 (a:=a) (k:=Y.m.n) (Nat.le_refl _)
  have b2:=ds_bd h2 (a:=b+1) (k:=Y.m.n) (Nat.le_refl _)
  dsimp only
  omega
 ·rw [drS_n h]; dsimp only; omega
theorem ly_n {M:Ms} (h:lyP M):lyN M≤32:=by
 have:=ly_le (M:=M) M.n
 have:=h.n
 unfold lyN
 omega
theorem po_len {M:Ms} (h:lyP M) {s:Tw}:(poS' M s).length≤32:=by
 have:=po_le (M:=M) (s:=s) (lyN M)
 have:=ly_n h
 unfold poS'
 omega
theorem dw_yes {Y:Yd} {a:Int} (h:drE Y a a=0):dwL Y a=poS' Y.m (drS Y a a):=if_pos h
theorem dw_no {Y:Yd} {a:Int} (h:¬ drE Y a a=0):dwL Y a=[]:=if_neg h
theorem lf_yes {Y:Yd} (h:ckY Y=0):lfL Y=poS' Y.m (udS Y.m Y.m.n):=if_pos h
theorem lf_no {Y:Yd} (h:¬ ckY Y=0):lfL Y=[]:=if_neg h
theorem dw_true (Y:Yd) (a:Int):dwG Y a:=by
 rw [dwG_vc]
 have e0:Yd.mk Y.c Y.m=Y:=rfl
 have e1:∀ t:Tw,Tw.mk t.lo t.hi=t:=fun t=>rfl
 simp only [rI,rE,tt3,tt4,tt5,tt13,tt14,and_true,true_and,Nat.zero_lt_one,and_self,implies_true,Int.toNat_natCast,Nat.zero_add,Nat.add_zero,Nat.one_mul,Nat.mul_one,Classical.not_not,iff_self,Bool.false_eq_true,imp_false,and_imp,true_implies,forall_const,ms_fold,cl_fold,mv_fold,cv_fold,e0,e1]
 refine ⟨fun h=>by rw [dw_no h]; rfl,fun h=>?_⟩
 have hl:=ck_ly (drE_ck h)
 have hp:=po_len hl (s:=drS Y a a)
 rw [dw_yes h]
 exact ⟨hl,drS_bd Y a a,rfl,by unfold poS' lyN at hp; omega,rfl,fun i hi=>rfl,h.symm⟩
theorem csD_sound:SoundS Try.prog csD:=ctrs_sound (by
 intro x hx
 simp at hx
 rcases hx with rfl | rfl | rfl | rfl | rfl
 ·exact dr_ok
 ·exact po_ok
 ·exact pa_ok
 ·exact ck_ok
 ·exact un_ok)
theorem dw_ok:dwC.OkF Try.prog:=by
 refine ⟨by kernel_rfl,fun x k hk=>?_⟩
 simp only [dwC] at hk
 split at hk
 ·rename_i n f m g a
  obtain ⟨h1,h2,hk⟩:=hk
  have hh:=dw_true ⟨clOf n f,msOf m g⟩ a
  unfold dwG at hh
  simp only [Yd.sv] at hh
  rw [← h1,← h2] at hh
  have hh:funH Try.prog csD noX (ictrs []) noL noL 11 [.agg [.lst 8 n f,.lst 3 m g],i6 a] _:=hh
  exact ⟨_,funH_does csD_sound nilS_x nilS_ic mixed hh,hk⟩
 ·exact hk.elim
theorem lf_true (Y:Yd):lfG Y:=by
 rw [lfG_vc]
 have e0:Yd.mk Y.c Y.m=Y:=rfl
 have e1:∀ t:Tw,Tw.mk t.lo t.hi=t:=fun t=>rfl
 simp only [rI,rE,tt3,tt4,tt5,tt13,tt14,and_true,true_and,Nat.zero_lt_one,and_self,implies_true,Int.toNat_natCast,Nat.zero_add,Nat.add_zero,Nat.one_mul,Nat.mul_one,Classical.not_not,iff_self,Bool.false_eq_true,imp_false,and_imp,true_implies,forall_const,ms_fold,cl_fold,mv_fold,cv_fold,e0,e1]
 refine ⟨fun h=>by rw [lf_no h]; rfl,fun h=>?_⟩
 have hl:=ck_ly h
 obtain ⟨h1,h2,h3⟩:=ck_0 h
 have hb:=un_bd h2 (k:=Y.m.n) (Nat.le_refl _)
 have hp:=po_len hl (s:=udS Y.m Y.m.n)
 rw [lf_yes h]
 exact ⟨⟨_,h2⟩,hl,⟨by omega,by omega,by omega,by omega⟩,rfl,by unfold poS' lyN at hp; omega,rfl,fun i hi=>rfl,h.symm⟩
theorem lf_ok:lfC.OkF Try.prog:=by
 refine ⟨by kernel_rfl,fun x k hk=>?_⟩
 simp only [lfC] at hk
 split at hk
 ·rename_i n f m g
  obtain ⟨h1,h2,hk⟩:=hk
  have hh:=lf_true ⟨clOf n f,msOf m g⟩
  unfold lfG at hh
  simp only [Yd.sv] at hh
  rw [← h1,← h2] at hh
  have hh:funH Try.prog csD noX (ictrs []) noL noL 13 [.agg [.lst 8 n f,.lst 3 m g]] _:=hh
  exact ⟨_,funH_does csD_sound nilS_x nilS_ic mixed hh,hk⟩
 ·exact hk.elim
end Go.Proofs.Ytegbnbgbjhgnpaa
