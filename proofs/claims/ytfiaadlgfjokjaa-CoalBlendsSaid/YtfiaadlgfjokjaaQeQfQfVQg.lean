import Derived.Test.YtfiaadlgfjokjaaQcQcVQd
set_option linter.unusedVariables false
set_option linter.unusedSimpArgs false
set_option maxRecDepth 100000
namespace Go.Proofs.Ytfiaadlgfjokjaa
open Go Go.Lg
attribute [local irreducible] funS bodyH
theorem ls_true (M:Ms):lsG M:=by
 rw [lsG_vc]
 simp only [rI,rE,tA,tB,tC,tD,and_true,true_and,Nat.zero_lt_one,and_self,implies_true]
theorem ls_ok:lsC.OkF Try.prog:=by
 refine ⟨by kernel_rfl,fun x k hk=>?_⟩
 simp only [lsC] at hk
 split at hk
 ·rename_i n f
  obtain ⟨hf,hk⟩:=hk
  have hh:=ls_true (msOf n f)
  unfold lsG at hh
  refine ⟨_,?_,hk⟩
  have:=funH_does nilS_cs nilS_x nilS_ic mixed hh
  rw [← hf] at this ⊢
  exact this
 ·exact hk.elim
theorem cm_true {a b:Tw} (h:rI (min a.hi b.hi - max a.lo b.lo)):cmG a b:=by
 rw [cmG_vc]
 simp only [rI] at h
 simp only [rI,rE,tA,tB,tC,tD,and_true,true_and,Nat.zero_lt_one,and_self,implies_true]
 exact ⟨h,rfl⟩
theorem cm_ok:cmC.Ok Try.prog:=by
 refine ⟨by kernel_rfl,fun x k hk=>?_⟩
 simp only [cmC] at hk
 split at hk
 ·rename_i a b c d
  obtain ⟨h,hk⟩:=hk
  exact ⟨_,plainD nilS_cs nilS_x nilS_ic (cm_true (a:=⟨a,b⟩) (b:=⟨c,d⟩) h) trivial,hk⟩
 ·exact hk.elim
theorem po_y {M:Ms} {s:Tw} {k:Nat} (h:0<cmT s (lyF M k).st):poM M s (k+1)=poM M s k ++ [⟨lyF M k,k,cmT s (lyF M k).st⟩]:=by simp only [poM,poL,if_pos h]
theorem po_n {M:Ms} {s:Tw} {k:Nat} (h:¬ 0<cmT s (lyF M k).st):poM M s (k+1)=poM M s k:=by simp only [poM,poL,if_neg h]
theorem po_le {M:Ms} {s:Tw}:∀ k,(poM M s k).length≤k
 | 0=>by simp [poM,poL]
 | k+1=>by
  have:=po_le (M:=M) (s:=s) k
  by_cases h:0<cmT s (lyF M k).st
  ·rw [po_y h]; simp; omega
  ·rw [po_n h]; omega
theorem getD_snoc {α:Type} {l:List α} {x d:α} {i:Nat} (h:i<l.length+1):(l ++ [x]).getD i d=if i<l.length then l.getD i d else x:=by
 by_cases e:i<l.length
 ·rw [if_pos e]; simp [List.getD,List.getElem?_append_left e]
 ·have:i=l.length:=by omega
  subst this
  rw [if_neg e]; simp [List.getD]
theorem ly_mem {M:Ms} {j:Nat} (h:j<(lyL M M.n).length):lyF M j ∈ lyL M M.n:=by
 unfold lyF
 rw [List.getD,List.getElem?_eq_getElem h]
 exact List.getElem_mem h
theorem po_true {M:Ms} {s:Tw} (h:lyP M) (hs:-1000000000≤s.lo∧s.lo≤1000000000∧-1000000000≤s.hi∧s.hi≤1000000000):poG M s:=by
 rw [poG_vc]
 simp only [rI,rE,tA,tB,tC,tD,tt3,tt4,tt5,tt13,tt14,and_true,true_and,Nat.zero_lt_one,and_self,implies_true,Int.toNat_natCast,Nat.zero_add,Nat.add_zero,Nat.one_mul,Nat.mul_one,Classical.not_not,iff_self,Bool.false_eq_true,imp_false,and_imp,true_implies,forall_const,ms_fold,cl_fold,mv_fold,cv_fold]
 have hn:=h.n
 refine ⟨h,⟨0,⟨rfl,by omega⟩,rfl,rfl⟩,fun j hj z hz hj2=>?_,fun z hz _=>?_⟩
 ·subst hz
  have b:=(cu_bd h M.n (by omega)).2 _ (ly_mem hj)
  have bf:=b.f
  have bt:=b.t
  have pl:=po_le (M:=M) (s:=s) z
  have le:=ly_le (M:=M) M.n
  have e0:(cmT ⟨s.lo,s.hi⟩ ⟨(lyF M z).fr,(lyF M z).to⟩)=cmT s (lyF M z).st:=rfl
  rw [e0]
  refine ⟨by omega,fun hp=>?_,fun hp=>?_⟩
  ·have e:=po_y hp
   have el:(poM M s (z+1)).length=(poM M s z).length+1:=by rw [e]; simp
   refine ⟨by omega,by omega,z+1,⟨rfl,by omega⟩,el.symm,el,fun i hi=>?_⟩
   rw [e,getD_snoc (by omega)]
   by_cases k:i<(poM M s z).length
   ·simp only [if_pos k]; exact ⟨trivial,trivial,trivial,trivial,trivial,trivial,trivial,trivial,trivial,trivial⟩
   ·simp only [if_neg k]; exact ⟨trivial,trivial,trivial,trivial,trivial,trivial,trivial,trivial,trivial,trivial⟩
  ·have e:=po_n hp
   refine ⟨z+1,⟨rfl,by omega⟩,by rw [e],by rw [e],fun i hi=>?_⟩
   rw [e]; exact ⟨rfl,rfl,rfl,rfl,rfl,rfl,rfl,rfl,rfl,rfl⟩
 ·subst hz
  exact ⟨rfl,by omega,fun i hi=>⟨rfl,rfl,rfl,rfl,rfl,rfl,rfl,rfl,rfl,rfl⟩⟩
theorem po_ok:poC.Ok Try.prog:=by
 refine ⟨by kernel_rfl,fun x k hk=>?_⟩
 simp only [poC] at hk
 split at hk
 ·rename_i n f a b
  obtain ⟨hf,h,hs,hk⟩:=hk
  have hh:=po_true (M:=msOf n f) (s:=⟨a,b⟩) h hs
  unfold poG at hh
  rw [← hf] at hh
  refine ⟨_,newD (ctrsF_sound (one_cs cm_ok) (by intro y hy; simp at hy; subst hy; exact ls_ok)) nilS_x (ictrs_sound (by intro x hx; simp at hx; subst hx; exact li_ok)) hh (by simp [flatS,flatSL,scS,SV.cells,lP,Pn.sv]),hk⟩
 ·exact hk.elim
theorem pa_true {n:Nat} {f:Nat→Pn} (hn:n≤1000):paG n f:=by
 rw [paG_vc]
 simp only [rI,rE,tA,tB,tC,tD,tt3,tt4,tt5,tt13,tt14,and_true,true_and,Nat.zero_lt_one,and_self,implies_true,Int.toNat_natCast,Nat.zero_add,Nat.add_zero,Nat.one_mul,Nat.mul_one,Classical.not_not,iff_self,Bool.false_eq_true,imp_false,and_imp,true_implies,forall_const]
 refine ⟨⟨0,by omega,rfl,rfl,rfl⟩,fun z hz=>⟨fun hl=>⟨by omega,hl,by omega,by omega,by omega,z+1,by omega,by omega,rfl,by omega,rfl,fun i hi=>?_⟩,fun hl=>⟨by omega,by omega⟩⟩⟩
 by_cases k:i<z
 ·simp only [if_pos k]; exact ⟨trivial,trivial⟩
 ·have:i=z:=by omega
  subst this; simp only [if_neg k]; exact ⟨trivial,trivial⟩
theorem pa_ok:paC.Ok Try.prog:=by
 refine ⟨by kernel_rfl,fun x k hk=>?_⟩
 simp only [paC] at hk
 split at hk
 ·rename_i n f
  obtain ⟨hf,hn,hk⟩:=hk
  have hh:=pa_true (f:=fun i=>pnOf (f i)) hn
  unfold paG at hh
  rw [← hf] at hh
  exact ⟨_,newD nilS_cs nilS_x nilS_ic hh (by simp [flatS,flatSL,scS,SV.cells,ptL,Pt.sv]),hk⟩
 ·exact hk.elim
end Go.Proofs.Ytfiaadlgfjokjaa

namespace Go.Proofs.Ytfiaadlgfjokjaa
open Go Go.Lg
attribute [local irreducible] bodyH funS
noncomputable def lyN (M:Ms):Nat:=(lyL M M.n).length
noncomputable def poS' (M:Ms) (s:Tw):List Pn:=poM M s (lyN M)
open Classical in
noncomputable def dwL (Y:Yd) (a:Int):List Pn:=if drE Y a a=0 then poS' Y.m (drS Y a a) else []
noncomputable def lT (l:List Pn):SV:=ptL l.length fun i=>(l.getD i zP).pt
noncomputable def dwR (Y:Yd) (a:Int):SV:=.tup [lT (dwL Y a),i6 (drE Y a a)]
noncomputable def csD:CSpec:=ctrs [drC,poC,paC,ckC,unC]
noncomputable def dwC:Ctr:=⟨11,fun args k=>match args with
 | [.agg [.lst 8 n f,.lst 3 m g],.int .i64 a]=>SV.lst 8 n f=(clOf n f).sv∧SV.lst 3 m g=(msOf m g).sv∧k (dwR ⟨clOf n f,msOf m g⟩ a)
 | _=>False⟩
noncomputable def dwG (Y:Yd) (a:Int):Prop:=funH Try.prog csD noX (ictrs []) noL noL 11 [Y.sv,i6 a] (dwR Y a)
open Classical in
noncomputable def lfL (Y:Yd):List Pn:=if ckY Y=0 then poS' Y.m (udS Y.m Y.m.n) else []
def La.at (l:La) (i:Nat):Int:=cellZ l.sv.cells i
def shS (p:Pn) (i:Nat):Tw:=⟨max 0 (p.tn - (p.l.to - p.l.fr - p.l.at i)),min p.tn (p.l.at i)⟩
structure okP (p:Pn):Prop where
 l:bdLa 33554432 p.l
 t:0≤p.tn∧p.tn≤33554432
def seC:Ctr:=⟨40,fun args k=>match args with
 | [.agg [.int .i64 a,.int .i64 b,.int .i64 c,.int .i64 d,.int .i64 e,.int .i64 f,.int .i64 g,.int .i64 h,.int .i64 u,.int .i64 t],.int .i64 z]=>okP ⟨⟨a,b,c,d,e,f,g,h⟩,u,t⟩∧(0≤z∧z<6)∧k (shS ⟨⟨a,b,c,d,e,f,g,h⟩,u,t⟩ z.toNat).sv
 | _=>False⟩
noncomputable def seG (p:Pn) (z:Int):Prop:=funH Try.prog (ctrs []) noX (ictrs []) noL noL 40 [p.sv,i6 z] (shS p z.toNat).sv
def plC:Ctr:=⟨39,fun args k=>match args with
 | [.agg [.int .i64 a,.int .i64 b],.agg [.int .i64 c,.int .i64 d]]=>(rI (a+c)∧rI (b+d))∧k (.agg [i6 (a+c),i6 (b+d)])
 | _=>False⟩
noncomputable def plG (a b c d:Int):Prop:=funH Try.prog (ctrs []) noX (ictrs []) noL noL 39 [.agg [i6 a,i6 b],.agg [i6 c,i6 d]] (.agg [i6 (a+c),i6 (b+d)])
noncomputable def bsJ (l:List Pn) (c j:Nat):Tw:=⟨sumJ (fun i=>(shS (l.getD i zP) c).lo) j,sumJ (fun i=>(shS (l.getD i zP) c).hi) j⟩
noncomputable def bsS (l:List Pn) (c:Nat):Tw:=bsJ l c l.length
noncomputable def twL (n:Nat) (f:Nat→Tw):SV:=.lst 2 n fun i=>(f i).sv
open Classical in
noncomputable def beN (Y:Yd) (a:Int):Nat:=if drE Y a a=0 then Y.c.n else 0
noncomputable def beR (Y:Yd) (a:Int):SV:=.tup [twL (beN Y a) (bsS (dwL Y a)),i6 (drE Y a a)]
noncomputable def bdF (l:List Pn) (k:Nat) (i:Nat):Tw:=if i<k then bsS l i else ⟨0,0⟩
noncomputable def csE:CSpec:=ctrs [drC,poC,seC,plC]
noncomputable def beC:Ctr:=⟨16,fun args k=>match args with
 | [.agg [.lst 8 n f,.lst 3 m g],.int .i64 a]=>SV.lst 8 n f=(clOf n f).sv∧SV.lst 3 m g=(msOf m g).sv∧k (beR ⟨clOf n f,msOf m g⟩ a)
 | _=>False⟩
noncomputable def beG (Y:Yd) (a:Int):Prop:=funN Try.prog csE noX (ictrs [])
 (twoL 0 (natH (fun k=>k≤Y.c.n∧drE Y a a=0) (fun k=>Y.c.n - k) 3 (fun k=>mkF 59 [(2,.ptr 0 0 0),(6,.ptr 1 0 0),(8,lP (dwL Y a)),(9,.sl 2 0 Y.c.n),(32,.sl 2 0 Y.c.n),(33,i6 Y.c.n),(34,i6 k)]) (fun k=>mkX [vr 2 Y.sv,vr 2 (drS Y a a).sv,rw' 2 Y.c.n fun i=>(bdF (dwL Y a) k i).sv]) fun _=>none)
 (oneL 2 (twH 59 34 39 4 (fun s=>s.1<Y.c.n∧s.2≤(dwL Y a).length) (fun s=>(dwL Y a).length - s.2) (fun s=>mkF 59 [(2,.ptr 0 0 0),(6,.ptr 1 0 0),(8,lP (dwL Y a)),(9,.sl 2 0 Y.c.n),(10,i6 s.1),(11,.ptr 3 0 0),(32,.sl 2 0 Y.c.n),(33,i6 Y.c.n),(34,i6 s.1),(37,lP (dwL Y a)),(38,i6 (dwL Y a).length),(39,i6 s.2)])
  (fun s=>mkX [vr 2 Y.sv,vr 2 (drS Y a a).sv,rw' 2 Y.c.n fun i=>(bdF (dwL Y a) s.1 i).sv,vr 2 (bsJ (dwL Y a) s.1 s.2).sv])))) noL 16 [Y.sv,i6 a] (beR Y a)
end Go.Proofs.Ytfiaadlgfjokjaa

set_option maxRecDepth 100000
namespace Go.Proofs.Ytfiaadlgfjokjaa
open Go Go.Lg
theorem dwG_vc (Y:Yd) (a:Int):dwG Y a=((0:Nat)<(1:Nat)∧tA Y∧tB Y∧tC Y∧tD Y∧(¬drE Y a a=(0:Int)→(0:Nat)=(dwL Y a).length∧drE Y a a=drE Y a a∧True)∧(¬¬drE Y a a=(0:Int)→(0:Nat)<(1:Nat)∧(0:Nat)<(1:Nat)∧tB Y∧Y.m.sv=Y.m.sv∧lyP Y.m∧((-1000000000:Int)≤(drS Y a a).1∧(drS Y a a).1≤(1000000000:Int)∧(-1000000000:Int)≤(drS Y a a).2∧(drS Y a a).2≤(1000000000:Int))∧(∀ (i:Nat),i<(poM Y.m (Tw.mk (drS Y a a).lo (drS Y a a).hi) (lyL Y.m Y.m.n).length).length→True∧True∧True∧True∧True∧True∧True∧True∧True∧True∧True)∧((SV.lst (10:Nat) (poM Y.m (Tw.mk (drS Y a a).lo (drS Y a a).hi) (lyL Y.m Y.m.n).length).length fun i=>((poM Y.m (Tw.mk (drS Y a a).lo (drS Y a a).hi) (lyL Y.m Y.m.n).length).getD i zP).sv)=SV.lst (10:Nat) (poM Y.m (Tw.mk (drS Y a a).lo (drS Y a a).hi) (lyL Y.m Y.m.n).length).length fun i=>(pnOf ((poM Y.m (Tw.mk (drS Y a a).lo (drS Y a a).hi) (lyL Y.m Y.m.n).length).getD i zP).sv).sv)∧(poM Y.m (Tw.mk (drS Y a a).lo (drS Y a a).hi) (lyL Y.m Y.m.n).length).length≤(1000:Nat)∧(poM Y.m (Tw.mk (drS Y a a).lo (drS Y a a).hi) (lyL Y.m Y.m.n).length).length=(dwL Y a).length∧(∀ (i:Nat),i<(dwL Y a).length→(pnOf ((poM Y.m (Tw.mk (drS Y a a).lo (drS Y a a).hi) (lyL Y.m Y.m.n).length).getD i zP).sv).pt.sv.den=((dwL Y a).getD i zP).pt.sv.den∧True∧True∧True)∧(0:Int)=drE Y a a∧True)):=by kernel_rfl
theorem seG_vc (p:Pn) (z:Int):seG p z=((0:Int)≤z∧z<(↑(6:Nat):Int)∧(0:Nat)<(1:Nat)∧(0:Nat)+z.toNat*(1:Nat)<(10:Nat)∧(0:Nat)<(1:Nat)∧(0:Nat)<(1:Nat)∧rI (p.l.8 - p.l.7)∧rI (p.l.8 - p.l.7 - cellZ ((SRow.v (Try.prog.cellsOf (86:Nat)) (sev (Nat.succ (32:Nat)) (frmS (Nat.succ (32:Nat)) [p.sv,i6 z] (0:Nat) Tr.nil) (Operand.tmp (0:Nat)))).f (0:Nat)).cells ((0:Nat)+z.toNat*(1:Nat)))∧(0:Nat)<(1:Nat)∧rI (p.3 - (p.l.8 - p.l.7 - cellZ ((SRow.v (Try.prog.cellsOf (86:Nat)) (sev (Nat.succ (32:Nat)) (frmS (Nat.succ (32:Nat)) [p.sv,i6 z] (0:Nat) Tr.nil) (Operand.tmp (0:Nat)))).f (0:Nat)).cells ((0:Nat)+z.toNat*(1:Nat))))∧(0:Nat)<(1:Nat)∧(0:Nat)<(1:Nat)∧max (0:Int) (p.3 - (p.l.8 - p.l.7 - cellZ ((SRow.v (Try.prog.cellsOf (86:Nat)) (sev (Nat.succ (32:Nat)) (frmS (Nat.succ (32:Nat)) [p.sv,i6 z] (0:Nat) Tr.nil) (Operand.tmp (0:Nat)))).f (0:Nat)).cells ((0:Nat)+z.toNat*(1:Nat))))=max (0:Int) (p.3 - (p.l.8 - p.l.7 - p.l.at z.toNat))∧min p.3 (cellZ ((SRow.v (Try.prog.cellsOf (86:Nat)) (sev (Nat.succ (32:Nat)) (frmS (Nat.succ (32:Nat)) [p.sv,i6 z] (0:Nat) Tr.nil) (Operand.tmp (0:Nat)))).f (0:Nat)).cells ((0:Nat)+z.toNat*(1:Nat)))=min p.3 (p.l.at z.toNat)∧True):=by kernel_rfl
theorem plG_vc (a:Int) (b:Int) (c:Int) (d:Int):plG a b c d=((0:Nat)<(1:Nat)∧(0:Nat)<(1:Nat)∧((-9223372036854775808:Int)≤a+c∧a+c≤(9223372036854775807:Int))∧(0:Nat)<(1:Nat)∧(0:Nat)<(1:Nat)∧((-9223372036854775808:Int)≤b+d∧b+d≤(9223372036854775807:Int))∧(0:Nat)<(1:Nat)∧a+c=a+c∧b+d=b+d∧True):=by kernel_rfl
theorem beG_vc (Y:Yd) (a:Int):beG Y a=((0:Nat)<(1:Nat)∧tA Y∧tB Y∧tC Y∧tD Y∧(¬drE Y a a=(0:Int)→(0:Nat)=beN Y a∧drE Y a a=drE Y a a∧True)∧(¬¬drE Y a a=(0:Int)→(0:Nat)<(1:Nat)∧(0:Nat)<(1:Nat)∧tB Y∧Y.m.sv=Y.m.sv∧lyP Y.m∧((-1000000000:Int)≤(drS Y a a).1∧(drS Y a a).1≤(1000000000:Int)∧(-1000000000:Int)≤(drS Y a a).2∧(drS Y a a).2≤(1000000000:Int))∧(0:Nat)<(1:Nat)∧(0:Int)≤(↑Y.c.1:Int)∧(↑Y.c.1:Int)≤(↑Y.c.1:Int)∧(↑Y.c.1:Int)≤(1048576:Int)∧(↑Y.c.1:Int)*(↑(16:Nat):Int)≤(140737488355328:Int)∧(∃ (z:Nat),(z≤Y.c.1∧drE Y a a=(0:Int))∧rE (0:Nat)∧rE (0:Nat)∧rE (0:Nat)∧rE (0:Nat)∧(poM Y.m (Tw.mk (drS Y a a).lo (drS Y a a).hi) (lyL Y.m Y.m.n).length).length=(dwL Y a).length∧(∀ (i:Nat),i<(dwL Y a).length→((poM Y.m (Tw.mk (drS Y a a).lo (drS Y a a).hi) (lyL Y.m Y.m.n).length).getD i zP).sv.den=((dwL Y a).getD i zP).sv.den∧True∧True∧True∧True∧True∧True∧True∧True∧True∧True∧True)∧rE (0:Nat)∧(↑Y.c.1:Int).toNat=Y.c.1∧rE (0:Nat)∧(↑Y.c.1:Int).toNat=Y.c.1∧(↑(↑Y.c.1:Int).toNat:Int)=(↑Y.c.1:Int)∧(0:Int)=(↑z:Int)∧rE Y.c.1∧(∀ (i:Nat),i<Y.c.1→rE ((Y.c.f i).sv.den)∧True∧True∧True∧True∧True∧True∧True∧True∧True)∧rE Y.m.1∧(∀ (i:Nat),i<Y.m.1→rE ((Y.m.f i).sv.den)∧True∧True∧True∧True)∧(drS Y a a).1=(drS Y a a).1 ∧
(drS Y a a).2=(drS Y a a).2∧Y.c.1=(↑Y.c.1:Int).toNat∧(∀ (i:Nat),i<Y.c.1→rE (2:Nat)∧(0:Int)=(bdF (dwL Y a) z i).1∧(0:Int)=(bdF (dwL Y a) z i).2∧True)∧True)∧∀ (z:Nat),z≤Y.c.1∧drE Y a a=(0:Int)→((↑z:Int)<(↑Y.c.1:Int)→(((z<Y.c.1∧(0:Nat)≤(dwL Y a).length)∧z=(↑z:Int).toNat)∧rE (0:Nat)∧rE (0:Nat)∧rE (0:Nat)∧rE (0:Nat)∧rE ((dwL Y a).length)∧(∀ (i:Nat),i<(dwL Y a).length→rE (((dwL Y a).getD i zP).sv.den)∧True∧True∧True∧True∧True∧True∧True∧True∧True∧True∧True)∧rE (0:Nat)∧rE Y.c.1∧rE (↑z:Int)∧rE (0:Nat)∧rE (0:Nat)∧rE (0:Nat)∧rE Y.c.1∧rE (↑Y.c.1:Int)∧rE (↑z:Int)∧rE ((dwL Y a).length)∧(∀ (i:Nat),i<(dwL Y a).length→rE (((dwL Y a).getD i zP).sv.den)∧True∧True∧True∧True∧True∧True∧True∧True∧True∧True∧True)∧rE (↑(dwL Y a).length:Int)∧(0:Int)=(↑(0:Nat):Int)∧rE Y.c.1∧(∀ (i:Nat),i<Y.c.1→rE ((Y.c.f i).sv.den)∧True∧True∧True∧True∧True∧True∧True∧True∧True)∧rE Y.m.1∧(∀ (i:Nat),i<Y.m.1→rE ((Y.m.f i).sv.den)∧True∧True∧True∧True)∧rE ((drS Y a a).1)∧rE ((drS Y a a).2)∧rE Y.c.1∧(∀ (i:Nat),i<Y.c.1→rE (2:Nat)∧(bdF (dwL Y a) z i).1=(bdF (dwL Y a) (↑z:Int).toNat i).1∧(bdF (dwL Y a) z i).2=(bdF (dwL Y a) (↑z:Int).toNat i).2∧True)∧(0:Int)=sumJ (fun i=>(shS ((dwL Y a).getD i zP) (↑z:Int).toNat).lo) (0:Nat) ∧
(0:Int)=sumJ (fun i=>(shS ((dwL Y a).getD i zP) (↑z:Int).toNat).hi) (0:Nat)∧True)∧∀ (z_1:Nat × Nat),(z_1.1<Y.c.1∧z_1.2≤(dwL Y a).length)∧z_1.1=(↑z:Int).toNat→((↑z_1.2:Int)<(↑(dwL Y a).length:Int)→(0:Int)≤(↑z_1.2:Int)∧(↑z_1.2:Int)<(↑(dwL Y a).length:Int)∧(0:Nat)<(1:Nat)∧(0:Nat)<(1:Nat)∧okP (Pn.mk (La.mk ((dwL Y a).getD (↑z_1.snd:Int).toNat zP).l.c0 ((dwL Y a).getD (↑z_1.snd:Int).toNat zP).l.c1 ((dwL Y a).getD (↑z_1.snd:Int).toNat zP).l.c2 ((dwL Y a).getD (↑z_1.snd:Int).toNat zP).l.c3 ((dwL Y a).getD (↑z_1.snd:Int).toNat zP).l.c4 ((dwL Y a).getD (↑z_1.snd:Int).toNat zP).l.c5 ((dwL Y a).getD (↑z_1.snd:Int).toNat zP).l.fr ((dwL Y a).getD (↑z_1.snd:Int).toNat zP).l.to) ((dwL Y a).getD (↑z_1.snd:Int).toNat zP).nu ((dwL Y a).getD (↑z_1.snd:Int).toNat zP).tn)∧((0:Int)≤(↑z_1.1:Int)∧(↑z_1.1:Int)<(6:Int))∧(rI ((bsJ (dwL Y a) z_1.fst z_1.snd).lo+(shS (Pn.mk (La.mk ((dwL Y a).getD (↑z_1.snd:Int).toNat zP).l.c0 ((dwL Y a).getD (↑z_1.snd:Int).toNat zP).l.c1 ((dwL Y a).getD (↑z_1.snd:Int).toNat zP).l.c2 ((dwL Y a).getD (↑z_1.snd:Int).toNat zP).l.c3 ((dwL Y a).getD (↑z_1.snd:Int).toNat zP).l.c4 ((dwL Y a).getD (↑z_1.snd:Int).toNat zP).l.c5 ((dwL Y a).getD (↑z_1.snd:Int).toNat zP).l.fr ((dwL Y a).getD (↑z_1.snd:Int).toNat zP).l.to) ((dwL Y a).getD (↑z_1.snd:Int).toNat zP).nu ((dwL Y a).getD (↑z_1.snd:Int).toNat zP).tn) (↑z_1.fst:Int).toNat).lo) ∧
rI ((bsJ (dwL Y a) z_1.fst z_1.snd).hi+(shS (Pn.mk (La.mk ((dwL Y a).getD (↑z_1.snd:Int).toNat zP).l.c0 ((dwL Y a).getD (↑z_1.snd:Int).toNat zP).l.c1 ((dwL Y a).getD (↑z_1.snd:Int).toNat zP).l.c2 ((dwL Y a).getD (↑z_1.snd:Int).toNat zP).l.c3 ((dwL Y a).getD (↑z_1.snd:Int).toNat zP).l.c4 ((dwL Y a).getD (↑z_1.snd:Int).toNat zP).l.c5 ((dwL Y a).getD (↑z_1.snd:Int).toNat zP).l.fr ((dwL Y a).getD (↑z_1.snd:Int).toNat zP).l.to) ((dwL Y a).getD (↑z_1.snd:Int).toNat zP).nu ((dwL Y a).getD (↑z_1.snd:Int).toNat zP).tn) (↑z_1.fst:Int).toNat).hi))∧rI ((↑z_1.2:Int)+(1:Int))∧(((↑z_1.1:Int).toNat<Y.c.1∧((↑z_1.2:Int)+(1:Int)).toNat≤(dwL Y a).length)∧(↑z_1.1:Int).toNat=(↑z:Int).toNat)∧(dwL Y a).length - ((↑z_1.2:Int)+(1:Int)).toNat<(dwL Y a).length - z_1.2∧rE (0:Nat)∧rE (0:Nat)∧rE (0:Nat)∧rE (0:Nat)∧rE ((dwL Y a).length)∧(∀ (i:Nat),i<(dwL Y a).length→rE (((dwL Y a).getD i zP).sv.den)∧True∧True∧True∧True∧True∧True∧True∧True∧True∧True∧True)∧rE (0:Nat)∧rE Y.c.1∧(↑z_1.1:Int)=(↑(↑z_1.1:Int).toNat:Int)∧rE (0:Nat)∧rE (0:Nat)∧rE (0:Nat)∧rE Y.c.1∧rE (↑Y.c.1:Int)∧(↑z_1.1:Int)=(↑(↑z_1.1:Int).toNat:Int)∧rE ((dwL Y a).length)∧(∀ (i:Nat),i<(dwL Y a).length→rE (((dwL Y a).getD i zP).sv.den)∧True∧True∧True∧True∧True∧True∧True∧True∧True∧True∧True)∧rE (↑(dwL Y a).length:Int) ∧
(↑z_1.2:Int)+(1:Int)=(↑((↑z_1.2:Int)+(1:Int)).toNat:Int)∧rE Y.c.1∧(∀ (i:Nat),i<Y.c.1→rE ((Y.c.f i).sv.den)∧True∧True∧True∧True∧True∧True∧True∧True∧True)∧rE Y.m.1∧(∀ (i:Nat),i<Y.m.1→rE ((Y.m.f i).sv.den)∧True∧True∧True∧True)∧rE ((drS Y a a).1)∧rE ((drS Y a a).2)∧rE Y.c.1∧(∀ (i:Nat),i<Y.c.1→rE (2:Nat)∧(bdF (dwL Y a) z_1.fst i).1=(bdF (dwL Y a) (↑z_1.fst:Int).toNat i).1∧(bdF (dwL Y a) z_1.fst i).2=(bdF (dwL Y a) (↑z_1.fst:Int).toNat i).2∧True)∧sumJ (fun i=>(shS ((dwL Y a).getD i zP) z_1.fst).lo) z_1.2+max (0:Int) (((dwL Y a).getD (↑z_1.snd:Int).toNat zP).3 - (((dwL Y a).getD (↑z_1.snd:Int).toNat zP).l.8 - ((dwL Y a).getD (↑z_1.snd:Int).toNat zP).l.7 - (La.mk ((dwL Y a).getD (↑z_1.snd:Int).toNat zP).l.c0 ((dwL Y a).getD (↑z_1.snd:Int).toNat zP).l.c1 ((dwL Y a).getD (↑z_1.snd:Int).toNat zP).l.c2 ((dwL Y a).getD (↑z_1.snd:Int).toNat zP).l.c3 ((dwL Y a).getD (↑z_1.snd:Int).toNat zP).l.c4 ((dwL Y a).getD (↑z_1.snd:Int).toNat zP).l.c5 ((dwL Y a).getD (↑z_1.snd:Int).toNat zP).l.fr ((dwL Y a).getD (↑z_1.snd:Int).toNat zP).l.to).at (↑z_1.1:Int).toNat))=sumJ (fun i=>(shS ((dwL Y a).getD i zP) (↑z_1.fst:Int).toNat).lo) ((↑z_1.2:Int)+(1:Int)).toNat ∧
sumJ (fun i=>(shS ((dwL Y a).getD i zP) z_1.fst).hi) z_1.2+min ((dwL Y a).getD (↑z_1.snd:Int).toNat zP).3 ((La.mk ((dwL Y a).getD (↑z_1.snd:Int).toNat zP).l.c0 ((dwL Y a).getD (↑z_1.snd:Int).toNat zP).l.c1 ((dwL Y a).getD (↑z_1.snd:Int).toNat zP).l.c2 ((dwL Y a).getD (↑z_1.snd:Int).toNat zP).l.c3 ((dwL Y a).getD (↑z_1.snd:Int).toNat zP).l.c4 ((dwL Y a).getD (↑z_1.snd:Int).toNat zP).l.c5 ((dwL Y a).getD (↑z_1.snd:Int).toNat zP).l.fr ((dwL Y a).getD (↑z_1.snd:Int).toNat zP).l.to).at (↑z_1.1:Int).toNat)=sumJ (fun i=>(shS ((dwL Y a).getD i zP) (↑z_1.fst:Int).toNat).hi) ((↑z_1.2:Int)+(1:Int)).toNat∧True)∧(¬(↑z_1.2:Int)<(↑(dwL Y a).length:Int)→(0:Nat)<(1:Nat)∧(0:Nat)<(1:Nat)∧(0:Int)≤(↑z_1.1:Int)∧(↑z_1.1:Int)<(↑Y.c.1:Int)∧(0:Nat)+(2:Nat)≤(2:Nat)∧(0:Nat)+(↑z_1.1:Int).toNat<Y.c.1∧(∀ (i':Nat),rE true)∧rI ((↑z_1.1:Int)+(1:Int))∧∃ (z_2:Nat),(z_2≤Y.c.1∧drE Y a a=(0:Int))∧Y.c.1 - z_2<Y.c.1 - z∧rE (0:Nat)∧rE (0:Nat)∧rE (0:Nat)∧rE (0:Nat)∧rE ((dwL Y a).length)∧(∀ (i:Nat),i<(dwL Y a).length→rE (((dwL Y a).getD i zP).sv.den)∧True∧True∧True∧True∧True∧True∧True∧True∧True∧True∧True)∧rE (0:Nat)∧rE Y.c.1∧rE (0:Nat)∧rE Y.c.1∧rE (↑Y.c.1:Int)∧(↑z_1.1:Int)+(1:Int)=(↑z_2:Int)∧rE Y.c.1∧(∀ (i:Nat),i<Y.c.1→rE ((Y.c.f i).sv.den)∧True∧True∧True∧True∧True∧True∧True∧True∧True) ∧
rE Y.m.1∧(∀ (i:Nat),i<Y.m.1→rE ((Y.m.f i).sv.den)∧True∧True∧True∧True)∧rE ((drS Y a a).1)∧rE ((drS Y a a).2)∧rE Y.c.1∧(∀ (i:Nat),i<Y.c.1→rE (2:Nat)∧(if i=(0:Nat)+(↑z_1.1:Int).toNat then sumJ (fun i=>(shS ((dwL Y a).getD i zP) z_1.fst).lo) z_1.2 else (bdF (dwL Y a) z_1.fst i).1)=(bdF (dwL Y a) z_2 i).1∧(if i=(0:Nat)+(↑z_1.1:Int).toNat then sumJ (fun i=>(shS ((dwL Y a).getD i zP) z_1.fst).hi) z_1.2 else (bdF (dwL Y a) z_1.fst i).2)=(bdF (dwL Y a) z_2 i).2∧True)∧True))∧(¬(↑z:Int)<(↑Y.c.1:Int)→Y.c.1=beN Y a∧(0:Nat)+beN Y a≤Y.c.1∧(∀ (i:Nat),i<beN Y a→rE (2:Nat)∧rE (2:Nat)∧(bdF (dwL Y a) z (i+(0:Nat))).1=sumJ (fun i_1=>(shS ((dwL Y a).getD i_1 zP) i).lo) (dwL Y a).length∧(bdF (dwL Y a) z (i+(0:Nat))).2=sumJ (fun i_1=>(shS ((dwL Y a).getD i_1 zP) i).hi) (dwL Y a).length∧True)∧(0:Int)=drE Y a a∧True))):=by kernel_rfl
end Go.Proofs.Ytfiaadlgfjokjaa

set_option maxRecDepth 100000
namespace Go.Proofs.Ytfiaadlgfjokjaa
open Go Go.Lg
attribute [local irreducible] funS bodyH
theorem lyP_of {c:Int} {M:Ms} (h:okMs c M) (hc:c≤6):lyP M:=⟨h.n,fun i hi=>by
 have m:=h.h i hi
 have:=m.c0
 have:=m.c1
 exact ⟨by omega,by omega,m.t0,m.t1⟩⟩
theorem drE_ck {Y:Yd} {a b:Int} (h:drE Y a b=0):ckY Y=0:=by
 apply Classical.byContradiction
 intro hn
 rw [drE_e hn] at h
 exact hn h
theorem ck_ly {Y:Yd} (h:ckY Y=0):lyP Y.m:=by
 obtain ⟨h1,h2,h3⟩:=ck_0 h
 have:=h1.b
 exact lyP_of h2 (by omega)
theorem drS_bd (Y:Yd) (a b:Int):-1000000000≤(drS Y a b).lo∧(drS Y a b).lo≤1000000000∧-1000000000≤(drS Y a b).hi∧(drS Y a b).hi≤1000000000:=by
 by_cases h:drE Y a b=0
 ·obtain ⟨h1,h2,h3⟩:=ck_0 (drE_ck h)
  rw [drS_y h]
  have b1:=ds_bd h2 (a:=a) (k:=Y.m.n) (Nat.le_refl _)
  have b2:=ds_bd h2 (a:=b+1) (k:=Y.m.n) (Nat.le_refl _)
  dsimp only
  omega
 ·rw [drS_n h]; dsimp only; omega
theorem ly_n {M:Ms} (h:lyP M):lyN M≤32:=by
 have:=ly_le (M:=M) M.n
 have:=h.n
 unfold lyN
 omega
theorem po_mem {M:Ms} (h:lyP M) {s:Tw}:∀ k,k≤lyN M→∀ p ∈ poM M s k,okP p∧0<p.tn∧p.tn≤p.l.to - p.l.fr
 | 0,_=>fun p hp=>by simp [poM,poL] at hp
 | k+1,hk=>fun p hp=>by
  by_cases hc:0<cmT s (lyF M k).st
  ·rw [po_y hc] at hp
   rcases List.mem_append.1 hp with hp | hp
   ·exact po_mem h k (by omega) p hp
   ·simp at hp
    subst hp
    have b:=(cu_bd h M.n (by omega)).2 _ (ly_mem (M:=M) (j:=k) hk)
    have hn:=h.n
    have b:bdLa 33554432 (lyF M k):=bd_mono b (by omega)
    have bf:=b.f
    have bt:=b.t
    have e:cmT s (lyF M k).st≤(lyF M k).to - (lyF M k).fr:=by unfold cmT La.st; dsimp only; omega
    exact ⟨⟨b,by dsimp only; omega⟩,hc,e⟩
  ·rw [po_n hc] at hp
   exact po_mem h k (by omega) p hp
theorem po_len {M:Ms} (h:lyP M) {s:Tw}:(poS' M s).length≤32:=by
 have:=po_le (M:=M) (s:=s) (lyN M)
 have:=ly_n h
 unfold poS'
 omega
theorem dw_yes {Y:Yd} {a:Int} (h:drE Y a a=0):dwL Y a=poS' Y.m (drS Y a a):=if_pos h
theorem dw_no {Y:Yd} {a:Int} (h:¬ drE Y a a=0):dwL Y a=[]:=if_neg h
theorem dw_true (Y:Yd) (a:Int):dwG Y a:=by
 rw [dwG_vc]
 have e0:Yd.mk Y.c Y.m=Y:=rfl
 have e1:∀ t:Tw,Tw.mk t.lo t.hi=t:=fun t=>rfl
 simp only [rI,rE,tA,tB,tC,tD,tt3,tt4,tt5,tt13,tt14,and_true,true_and,Nat.zero_lt_one,and_self,implies_true,Int.toNat_natCast,Nat.zero_add,Nat.add_zero,Nat.one_mul,Nat.mul_one,Classical.not_not,iff_self,Bool.false_eq_true,imp_false,and_imp,true_implies,forall_const,ms_fold,cl_fold,mv_fold,cv_fold,e0,e1]
 refine ⟨fun h=>by rw [dw_no h]; rfl,fun h=>?_⟩
 have hl:=ck_ly (drE_ck h)
 have hp:=po_len hl (s:=drS Y a a)
 rw [dw_yes h]
 exact ⟨hl,drS_bd Y a a,rfl,by unfold poS' lyN at hp; omega,rfl,fun i hi=>rfl,h.symm⟩
theorem csD_sound:SoundS Try.prog csD:=ctrs_sound (by
 intro x hx
 simp at hx
 rcases hx with rfl | rfl | rfl | rfl | rfl
 ·exact dr_ok
 ·exact po_ok
 ·exact pa_ok
 ·exact ck_ok
 ·exact un_ok)
theorem dw_ok:dwC.OkF Try.prog:=by
 refine ⟨by kernel_rfl,fun x k hk=>?_⟩
 simp only [dwC] at hk
 split at hk
 ·rename_i n f m g a
  obtain ⟨h1,h2,hk⟩:=hk
  have hh:=dw_true ⟨clOf n f,msOf m g⟩ a
  unfold dwG at hh
  simp only [Yd.sv] at hh
  rw [← h1,← h2] at hh
  have hh:funH Try.prog csD noX (ictrs []) noL noL 11 [.agg [.lst 8 n f,.lst 3 m g],i6 a] _:=hh
  exact ⟨_,funH_does csD_sound nilS_x nilS_ic mixed hh,hk⟩
 ·exact hk.elim
theorem at_eq (p:Pn) {i:Nat} (hi:i<6):cellZ p.sv.cells i=p.l.at i:=by
 have:i=0∨i=1∨i=2∨i=3∨i=4∨i=5:=by omega
 rcases this with e | e | e | e | e | e <;> subst e <;> rfl
theorem se_true {p:Pn} {z:Int} (h:okP p) (hz:0≤z∧z<6):seG p z:=by
 rw [seG_vc]
 have e:∀ i,cellZ ((SRow.v (Try.prog.cellsOf 86) (sev (Nat.succ 32) (frmS (Nat.succ 32) [p.sv,i6 z] 0 Tr.nil) (Operand.tmp 0))).f 0).cells i=cellZ p.sv.cells i:=fun i=>rfl
 simp only [rI,rE,tA,tB,tC,tD,tt3,tt4,tt5,tt13,tt14,and_true,true_and,Nat.zero_lt_one,and_self,implies_true,Int.toNat_natCast,Nat.zero_add,Nat.add_zero,Nat.one_mul,Nat.mul_one,Classical.not_not,iff_self,Bool.false_eq_true,imp_false,and_imp,true_implies,forall_const,e]
 rw [at_eq p (by omega)]
 have b:=cell_bd h.l (i:=z.toNat) (by omega)
 have bf:=h.l.f
 have bt:=h.l.t
 have ht:=h.t
 have e2:p.l.at z.toNat=cellZ p.l.sv.cells z.toNat:=rfl
 rw [← e2] at b
 exact ⟨hz.1,hz.2,by omega,by omega,by omega,by omega,rfl,rfl⟩
theorem se_ok:seC.Ok Try.prog:=by
 refine ⟨by kernel_rfl,fun x k hk=>?_⟩
 simp only [seC] at hk
 split at hk
 ·rename_i a b c d e f g h u t z
  obtain ⟨h1,h2,hk⟩:=hk
  exact ⟨_,plainD nilS_cs nilS_x nilS_ic (se_true (p:=⟨⟨a,b,c,d,e,f,g,h⟩,u,t⟩) h1 h2) (by simp [plainS,plainS.plainL,Tw.sv]),hk⟩
 ·exact hk.elim
theorem pl_true {a b c d:Int} (h:rI (a+c)∧rI (b+d)):plG a b c d:=by
 rw [plG_vc]
 simp only [rI] at h
 simp only [rI,and_true,true_and,Nat.zero_lt_one]
 exact h
theorem pl_ok:plC.Ok Try.prog:=by
 refine ⟨by kernel_rfl,fun x k hk=>?_⟩
 simp only [plC] at hk
 split at hk
 ·rename_i a b c d
  obtain ⟨h1,hk⟩:=hk
  exact ⟨_,plainD nilS_cs nilS_x nilS_ic (pl_true h1) (by simp [plainS,plainS.plainL]),hk⟩
 ·exact hk.elim
theorem dw_okP {Y:Yd} {a:Int} {p:Pn} (hp:p ∈ dwL Y a):okP p∧0<p.tn∧p.tn≤p.l.to - p.l.fr:=by
 by_cases h:drE Y a a=0
 ·rw [dw_yes h] at hp
  exact po_mem (ck_ly (drE_ck h)) (lyN Y.m) (Nat.le_refl _) p hp
 ·rw [dw_no h] at hp; simp at hp
theorem getD_mem {α:Type} {l:List α} {d:α} {i:Nat} (h:i<l.length):l.getD i d ∈ l:=by
 rw [List.getD,List.getElem?_eq_getElem h]
 exact List.getElem_mem h
theorem sh_bd {p:Pn} (h:okP p) {i:Nat} (hi:i<6):(0≤(shS p i).lo∧(shS p i).lo≤33554432*2)∧0≤(shS p i).hi∧(shS p i).hi≤33554432:=by
 have b:=cell_bd h.l (i:=i) hi
 have bf:=h.l.f
 have bt:=h.l.t
 have ht:=h.t
 have e2:p.l.at i=cellZ p.l.sv.cells i:=rfl
 rw [← e2] at b
 simp only [shS]
 omega
theorem bs_s (l:List Pn) (c j:Nat):bsJ l c (j+1)=⟨(bsJ l c j).lo+(shS (l.getD j zP) c).lo,(bsJ l c j).hi+(shS (l.getD j zP) c).hi⟩:=rfl
theorem dw_len (Y:Yd) (a:Int):(dwL Y a).length≤32:=by
 by_cases h:drE Y a a=0
 ·rw [dw_yes h]; exact po_len (ck_ly (drE_ck h))
 ·rw [dw_no h]; simp
theorem bs_bd {Y:Yd} {a:Int} {c j:Nat} (hc:c<6) (hj:j≤(dwL Y a).length):(0≤(bsJ (dwL Y a) c j).lo∧(bsJ (dwL Y a) c j).lo≤10000000000)∧0≤(bsJ (dwL Y a) c j).hi∧(bsJ (dwL Y a) c j).hi≤10000000000:=by
 have hl:=dw_len Y a
 have key:∀ j,j≤(dwL Y a).length→(0≤(bsJ (dwL Y a) c j).lo∧(bsJ (dwL Y a) c j).lo≤j*67108864)∧0≤(bsJ (dwL Y a) c j).hi∧(bsJ (dwL Y a) c j).hi≤j*67108864:=by
  intro j
  induction j with
  | zero=>intro _; simp [bsJ,sumJ]
  | succ j ih =>
   intro hj
   have ih:=ih (by omega)
   have b:=sh_bd (dw_okP (getD_mem (l:=dwL Y a) (d:=zP) (i:=j) (by omega))).1 hc
   rw [bs_s]
   dsimp only
   omega
 have:=key j hj
 omega
theorem be_yes {Y:Yd} {a:Int} (h:drE Y a a=0):beN Y a=Y.c.n:=if_pos h
theorem be_no {Y:Yd} {a:Int} (h:¬ drE Y a a=0):beN Y a=0:=if_neg h
theorem be_true (Y:Yd) (a:Int):beG Y a:=by
 rw [beG_vc]
 have e0:Yd.mk Y.c Y.m=Y:=rfl
 have e1:∀ t:Tw,Tw.mk t.lo t.hi=t:=fun t=>rfl
 have e2:∀ p:Pn,Pn.mk ⟨p.l.c0,p.l.c1,p.l.c2,p.l.c3,p.l.c4,p.l.c5,p.l.fr,p.l.to⟩ p.nu p.tn=p:=fun p=>rfl
 have e3:∀ l:La,La.mk l.c0 l.c1 l.c2 l.c3 l.c4 l.c5 l.fr l.to=l:=fun l=>rfl
 simp only [rI,rE,tA,tB,tC,tD,tt3,tt4,tt5,tt13,tt14,and_true,true_and,Nat.zero_lt_one,and_self,implies_true,Int.toNat_natCast,Nat.zero_add,Nat.add_zero,Nat.one_mul,Nat.mul_one,Classical.not_not,iff_self,Bool.false_eq_true,imp_false,and_imp,true_implies,forall_const,ms_fold,cl_fold,mv_fold,cv_fold,e0,e1,e2,e3]
 refine ⟨fun h=>by rw [be_no h],fun h=>?_⟩
 have hk:=ck_ly (drE_ck h)
 obtain ⟨hC,hM,hS⟩:=ck_0 (drE_ck h)
 have hcn:=hC.b
 have hdl:=dw_len Y a
 refine ⟨hk,drS_bd Y a a,by omega,by omega,by omega,by omega,⟨0,⟨by omega,h⟩,by rw [dw_yes h]; rfl,fun i hi=>by rw [dw_yes h]; rfl,rfl,fun i hi=>⟨rfl,rfl⟩⟩,fun z hz _=>⟨fun hl=>⟨⟨⟨by omega,by omega⟩,rfl,rfl,rfl⟩,?_⟩,fun hl=>?_⟩⟩
 ·rintro ⟨z',j⟩ q1 q2 rfl
  dsimp only at *
  refine ⟨fun hj=>?_,fun hj=>?_⟩
  ·have hp:=dw_okP (getD_mem (l:=dwL Y a) (d:=zP) (i:=j) (by omega))
   have b:=bs_bd (Y:=Y) (a:=a) (c:=z') (j:=j) (by omega) q2
   have b2:=sh_bd hp.1 (i:=z') (by omega)
   have e8:((j:Int)+1).toNat=j+1:=by omega
   rw [e8]
   exact ⟨by omega,hj,hp.1,⟨by omega,by omega⟩,⟨by omega,by omega⟩,by omega,⟨⟨q1,by omega⟩,rfl⟩,by omega,by omega,rfl,rfl⟩
  ·have hj:j=(dwL Y a).length:=by omega
   subst hj
   refine ⟨by omega,by omega,by omega,q1,by omega,z'+1,⟨by omega,h⟩,by omega,by omega,fun i hi=>?_⟩
   by_cases k:i=z'
   ·subst k
    rw [if_pos rfl,if_pos rfl]
    simp only [bdF,if_pos (Nat.lt_succ_self i)]
    exact ⟨rfl,rfl⟩
   ·rw [if_neg k,if_neg k]
    by_cases k2:i<z'
    ·simp only [bdF,if_pos k2,if_pos (show i<z'+1 by omega)]; exact ⟨trivial,trivial⟩
    ·simp only [bdF,if_neg k2,if_neg (show ¬ i<z'+1 by omega)]; exact ⟨trivial,trivial⟩
 ·have:z=Y.c.n:=by omega
  subst this
  rw [be_yes h]
  refine ⟨rfl,Nat.le_refl _,fun i hi=>?_,h.symm⟩
  simp only [bdF,if_pos hi]
  exact ⟨rfl,rfl⟩
theorem csE_sound:SoundS Try.prog csE:=ctrs_sound (by
 intro x hx
 simp at hx
 rcases hx with rfl | rfl | rfl | rfl
 ·exact dr_ok
 ·exact po_ok
 ·exact se_ok
 ·exact pl_ok)
theorem be_ok:beC.Ok Try.prog:=by
 refine ⟨by kernel_rfl,fun x k hk=>?_⟩
 simp only [beC] at hk
 split at hk
 ·rename_i n f m g a
  obtain ⟨h1,h2,hk⟩:=hk
  have hh:=be_true ⟨clOf n f,msOf m g⟩ a
  unfold beG at hh
  simp only [Yd.sv] at hh
  rw [← h1,← h2] at hh
  have hh:funN Try.prog csE noX (ictrs []) _ noL 16 [.agg [.lst 8 n f,.lst 3 m g],i6 a] _:=hh
  exact ⟨_,newD csE_sound nilS_x nilS_ic hh (by simp [flatS,flatSL,scS,SV.cells,twL,Tw.sv,beR]),hk⟩
 ·exact hk.elim
end Go.Proofs.Ytfiaadlgfjokjaa
