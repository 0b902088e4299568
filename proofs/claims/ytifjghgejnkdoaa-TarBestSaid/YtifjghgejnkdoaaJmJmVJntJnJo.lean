import Derived.Test.YtifjghgejnkdoaaJkJkVJktJl
set_option linter.unusedVariables false
set_option linter.unusedSimpArgs false
namespace Go.Proofs.Ytifjghgejnkdoaa
open Go Go.Lg
attribute [local irreducible] bodyH funS
noncomputable def owC (Y:Yd) (c:Crs):Int:=(seS Y.sal (stF Y.sal Y.q) (c6 c.l) Y.q).c - c.c
noncomputable def alC (Y:Yd):List Crs:=crA Y.sti Y.m 0 (r17 (stC Y.g Y.st))
open Classical in
noncomputable def bsP (Y:Yd):Nat→Crs × Int
 | 0=>(zC,0)
 | j+1=>if (bsP Y j).2<owC Y ((alC Y).getD j zC) then ((alC Y).getD j zC,owC Y ((alC Y).getD j zC)) else bsP Y j
open Classical in
noncomputable def pnN (Y:Yd):Nat:=if okYd Y then Y.m else 0
open Classical in
noncomputable def pnI (Y:Yd):Int:=if okYd Y then (bsP Y (alC Y).length).2 else 0
open Classical in
noncomputable def pnE (Y:Yd):Int:=if okYd Y then 0 else 1
noncomputable def pnF (Y:Yd):Nat→Int:=(bsP Y (alC Y).length).1.p
noncomputable def pnR (Y:Yd):SV:=.tup [iA (pnN Y) (pnF Y),i6 (pnI Y),i6 (pnE Y)]
noncomputable def pnH (Y:Yd):HSpec :=
 { toLSpec:={ σ:=Unit,inv:=fun _=>True,μ:=fun _=>0,nr:=4,ms:=fun _ _=>[],t:=fun _=>mkF 50 [(1,.ptr 0 0 0),(3,.ptr 1 0 0),(5,.ptr 2 0 0),(6,.ptr 3 0 0),(22,crsV Y.m Y.sti 0 (stC Y.g Y.st))],X:=fun _=>mkX [vr 3 Y.sv,vr 1 (i6 0),vr 2 (.agg [salL Y.q Y.sal,iL Y.q (stF Y.sal Y.q)]),vr 17 zC.sv],rd:=fun _ _ k=>k (),rdOK:=fun _ _ _ h=>⟨(),h⟩ },D:=[(1,0),(3,0)] }
noncomputable def pnG (Y:Yd):Prop:=funN Try.prog (ctrsF [nmC,cuC] (ctrs [ydC 25,ncC,seC])) noX (ictrs [ciC 100]) (oneL 1005 (pnH Y))
 (oneL 0 (itS 4 (fun _=>True) (mkF 50 [(1,.ptr 0 0 0),(3,.ptr 1 0 0),(5,.ptr 2 0 0),(6,.ptr 3 0 0)]) (fun j=>mkX [vr 3 Y.sv,vr 1 (i6 (bsP Y j).2),vr 2 (.agg [salL Y.q Y.sal,iL Y.q (stF Y.sal Y.q)]),vr 17 (bsP Y j).1.sv]) fun _=>none))
 11 [Y.sv] (pnR Y)
noncomputable def pnC:Ctr:=⟨11,fun args k=>match args with
 | [.agg [.lst 1 g st,.lst 5 m sti,.lst 3 q sal]]=>SV.agg [.lst 1 g st,.lst 5 m sti,.lst 3 q sal]=(ydOf g st m sti q sal).sv∧k (pnR (ydOf g st m sti q sal))
 | _=>False⟩
end Go.Proofs.Ytifjghgejnkdoaa

set_option maxRecDepth 100000
namespace Go.Proofs.Ytifjghgejnkdoaa
open Go Go.Lg
theorem pnG_vc (Y:Yd):pnG Y=((0:Nat)<(1:Nat)∧(∀ (i:Nat),i<Y.1→True)∧(∀ (i:Nat),i<Y.3→True∧True∧(∀ (i_1:Nat),i_1<(Y.sti i).3→True∧True∧True)∧True∧True∧True)∧(∀ (i:Nat),i<Y.5→True∧True∧True∧True)∧SV.agg [SV.lst (1:Nat) Y.g fun i=>i6 (Y.st i),SV.lst (5:Nat) Y.m fun i=>(Y.sti i).sv,SV.lst (3:Nat) Y.q fun i=>(Y.sal i).sv]=(ydOf Y.g (fun i=>i6 (Y.st i)) Y.m (fun i=>(Y.sti i).sv) Y.q fun i=>(Y.sal i).sv).sv∧(¬okYd (ydOf Y.g (fun i=>i6 (Y.st i)) Y.m (fun i=>(Y.sti i).sv) Y.q fun i=>(Y.sal i).sv)→(0:Nat)<(1:Nat)∧(0:Nat)=pnN Y∧(0:Int)=pnI Y∧(1:Int)=pnE Y∧True)∧(¬¬okYd (ydOf Y.g (fun i=>i6 (Y.st i)) Y.m (fun i=>(Y.sti i).sv) Y.q fun i=>(Y.sal i).sv)→(0:Nat)<(1:Nat)∧(∀ (i:Nat),i<Y.5→True∧True∧True∧True)∧((SV.lst (3:Nat) Y.q fun i=>(Y.sal i).sv)
= salL Y.q fun i=>salOf (Y.sal i).sv)∧Y.5≤(6:Nat)∧(True∧True∧True∧True∧(0:Nat)<(1:Nat)∧True∧True∧True∧True∧(0:Nat)<(1:Nat)∧True∧True∧(∀ (i:Nat),i<Y.1→True)∧(SV.lst (1:Nat) Y.g fun i=>i6 (Y.st i))=iL Y.g (iOf fun i=>i6 (Y.st i))∧Y.1≤(6:Nat)∧True∧True∧(∀ (i:Nat),i<Y.3→True∧True∧(∀ (i_1:Nat),i_1<(Y.sti i).3→True∧True∧True)∧True∧True∧True)∧((SV.lst (5:Nat) Y.m fun i=>(Y.sti i).sv)=stiL Y.m fun i=>stiOf (Y.sti i).sv)∧True∧rE (0:Nat)∧rE (0:Nat)∧rE (0:Nat)∧rE (0:Nat)∧rE (0:Nat)∧rE (0:Nat)∧rE (0:Nat)∧rE (0:Nat)∧rE (Fn.func (45:FuncId))∧rE (SV.denL [i6 (0:Int)])∧(True∧True)∧SV.denL [stiL Y.m fun i=>stiOf (Y.sti i).sv]=SV.denL [stiL Y.m Y.sti]∧((∀ (i:Nat),i<Y.3→True∧True∧(∀ (i_1:Nat),i_1<(Y.sti i).3→True∧True∧True)
∧ True∧True∧True)∧True)∧SV.denL (r17 (stC Y.g (iOf fun i=>i6 (Y.st i)))).cells=SV.denL (stC Y.g Y.st).cells∧(True∧True∧True∧True∧True∧True∧True∧True∧True∧True∧True∧True∧True∧True∧True∧True∧True∧True)∧Y.1=Y.1∧(∀ (i:Nat),i<Y.1→rE ((i6 (Y.st i)).den)∧True)∧Y.3=Y.3∧(∀ (i:Nat),i<Y.3→rE ((Y.sti i).sv.den)∧True∧True∧(∀ (i_1:Nat),i_1<(Y.sti i).3→True∧True∧True)∧True∧True∧True)∧Y.5=Y.5∧(∀ (i:Nat),i<Y.5→rE ((Y.sal i).sv.den)∧True∧True∧True∧True)∧rE (0:Int)∧Y.5=Y.5∧(∀ (i:Nat),i<Y.5→(salOf (Y.sal i).sv).sv.den=(Y.sal i).sv.den∧True∧True∧True∧True)∧Y.5=Y.5∧(∀ (i:Nat),i<Y.5→(i6 (stF (fun i=>salOf (Y.sal i).sv) Y.q i)).den=(i6 (stF Y.sal Y.q i)).den∧True)∧rE (0:Int)∧rE (0:Int)∧rE (0:Int)∧rE (0:Int)∧rE (0:Int)∧rE (0:Int)
∧ rE (0:Int)∧rE (0:Int)∧rE (0:Int)∧rE (0:Int)∧rE (0:Int)∧rE (0:Int)∧rE (0:Int)∧rE (0:Int)∧rE (0:Int)∧rE (0:Int)∧rE (0:Int)∧True)∧∀ (z:Unit),True→(∀ (i:Nat),i<Y.3→True∧True∧(∀ (i_1:Nat),i_1<(Y.sti i).3→True∧True∧True)∧True∧True∧True)∧((SV.lst (5:Nat) Y.m fun i=>(Y.sti i).sv)=stiL Y.m fun i=>stiOf (Y.sti i).sv)∧ciP (100:Nat) Y.m (fun i=>stiOf (Y.sti i).sv) (0:Int) (r17 (stC Y.g Y.st))∧((True∧True)∧((∀ (i:Nat),i<Y.3→True∧True∧(∀ (i_1:Nat),i_1<(Y.sti i).3→True∧True∧True)∧True∧True∧True)∧True)∧(True∧True∧True∧True∧True∧True∧True∧True∧True∧True∧True∧True∧True∧True∧True∧True∧True∧True)∧∃ (z:Nat),(z=(0:Nat)∧True)∧rE (0:Nat)∧rE (0:Nat)∧rE (0:Nat)∧rE (0:Nat)∧rE (0:Nat)∧rE (0:Nat)∧rE (0:Nat)∧rE
(0:Nat)∧rE (Fn.func (45:FuncId))∧SV.denL [i6 (0:Int)]=SV.denL [SV.int IntKind.i64 (0:Int)]∧(True∧True)∧SV.denL [stiL Y.m Y.sti]=SV.denL [SV.lst (5:Nat) Y.m fun i=>(Y.sti i).sv]∧((∀ (i:Nat),i<Y.3→True∧True∧(∀ (i_1:Nat),i_1<(Y.sti i).3→True∧True∧True)∧True∧True∧True)∧True)∧SV.denL (stC Y.g Y.st).cells=SV.denL [SV.int IntKind.i64 ((stC Y.g Y.st).p (0:Nat)),SV.int IntKind.i64 ((stC Y.g Y.st).p (1:Nat)),SV.int IntKind.i64 ((stC Y.g Y.st).p (2:Nat)),SV.int IntKind.i64 ((stC Y.g Y.st).p (3:Nat)),SV.int IntKind.i64 ((stC Y.g Y.st).l (0:Nat)).lo,SV.int IntKind.i64 ((stC Y.g Y.st).l (0:Nat)).hi,SV.int IntKind.i64 ((stC Y.g Y.st).l (1:Nat)).lo,SV.int IntKind.i64 ((stC Y.g Y.st).l (1:Nat)).hi,SV.int IntKind.i64 ((stC Y.g Y.st).l (2:Nat)).lo,SV.int IntKind.i64 ((stC Y.g Y.st).l (2:Nat)).hi,SV.int IntKind.i64 ((stC
Y.g Y.st).l (3:Nat)).lo,SV.int IntKind.i64 ((stC Y.g Y.st).l (3:Nat)).hi,SV.int IntKind.i64 ((stC Y.g Y.st).l (4:Nat)).lo,SV.int IntKind.i64 ((stC Y.g Y.st).l (4:Nat)).hi,SV.int IntKind.i64 ((stC Y.g Y.st).l (5:Nat)).lo,SV.int IntKind.i64 ((stC Y.g Y.st).l (5:Nat)).hi,SV.int IntKind.i64 (stC Y.g Y.st).c]∧(True∧True∧True∧True∧True∧True∧True∧True∧True∧True∧True∧True∧True∧True∧True∧True∧True∧True)∧Y.1=Y.1∧(∀ (i:Nat),i<Y.1→rE ((i6 (Y.st i)).den)∧True)∧Y.3=Y.3∧(∀ (i:Nat),i<Y.3→rE ((Y.sti i).sv.den)∧True∧True∧(∀ (i_1:Nat),i_1<(Y.sti i).3→True∧True∧True)∧True∧True∧True)∧Y.5=Y.5∧(∀ (i:Nat),i<Y.5→rE ((Y.sal i).sv.den)∧True∧True∧True∧True)∧(0:Int)=(bsP Y z).2∧Y.5=Y.5∧(∀ (i:Nat),i<Y.5→rE ((Y.sal i).sv.den)∧True∧True∧True∧True)∧Y.5=Y.5∧(∀ (i :
Nat),i<Y.5→rE ((i6 (stF Y.sal Y.q i)).den)∧True)∧(e17 zC ((bsP Y z).fst) (True)))∧(∀ (j:Nat),j<(crA (fun i=>stiOf (Y.sti i).sv) Y.m (Int.toNat (0:Int)) (r17 (stC Y.g Y.st))).length→∀ (z:Nat),z=j∧True→(0:Nat)<(1:Nat)∧(0:Nat)<(1:Nat)∧(∀ (i:Nat),i<Y.5→True∧True∧True∧True)∧(∀ (i:Nat),i<Y.5→True)∧((SV.lst (3:Nat) Y.q fun i=>(Y.sal i).sv)=salL Y.q fun i=>salOf (Y.sal i).sv)∧(SV.lst (1:Nat) Y.q fun i=>i6 (stF Y.sal Y.q i))=iL Y.q (iOf fun i=>i6 (stF Y.sal Y.q i))∧Y.5=Y.5∧okOr Y.q (fun i=>salOf (Y.sal i).sv) (iOf fun i=>i6 (stF Y.sal Y.q i))∧bdG (10000000000:Int) (c6 (((crA (fun i=>stiOf (Y.sti i).sv) Y.m (Int.toNat (0:Int)) (r17 (stC Y.g Y.st))).getD j zC).l))∧(0:Nat)<(1:Nat)∧rI ((seS (fun i=>salOf (Y.sal i).sv) (iOf fun i=>i6 (stF Y.sal Y.q i)) (c6 (((crA (fun i=>stiOf (Y.sti
i).sv) Y.m (Int.toNat (0:Int)) (r17 (stC Y.g Y.st))).getD j zC).l)) Y.q).3 - ((crA (fun i=>stiOf (Y.sti i).sv) Y.m (Int.toNat (0:Int)) (r17 (stC Y.g Y.st))).getD j zC).3)∧(0:Nat)<(1:Nat)∧((bsP Y z).2<(seS (fun i=>salOf (Y.sal i).sv) (iOf fun i=>i6 (stF Y.sal Y.q i)) (c6 (((crA (fun i=>stiOf (Y.sti i).sv) Y.m (Int.toNat (0:Int)) (r17 (stC Y.g Y.st))).getD j zC).l)) Y.q).3 - ((crA (fun i=>stiOf (Y.sti i).sv) Y.m (Int.toNat (0:Int)) (r17 (stC Y.g Y.st))).getD j zC).3→(0:Nat)<(1:Nat)∧∃ (z:Nat),(z=j.succ∧True)∧Y.1=Y.1∧(∀ (i:Nat),i<Y.1→rE ((i6 (Y.st i)).den)∧True)∧Y.3=Y.3∧(∀ (i:Nat),i<Y.3→rE ((Y.sti i).sv.den)∧True∧True∧(∀ (i_1:Nat),i_1<(Y.sti i).3→True∧True∧True)∧True∧True∧True)∧Y.5=Y.5∧(∀ (i:Nat),i<Y.5→rE ((Y.sal i).sv.den)∧True∧True∧True∧True)∧(seS (fun i=>salOf (Y.sal i).sv)
(iOf fun i=>i6 (stF Y.sal Y.q i)) (c6 (((crA (fun i=>stiOf (Y.sti i).sv) Y.m (Int.toNat (0:Int)) (r17 (stC Y.g Y.st))).getD j zC).l)) Y.q).3 - ((crA (fun i=>stiOf (Y.sti i).sv) Y.m (Int.toNat (0:Int)) (r17 (stC Y.g Y.st))).getD j zC).3=(bsP Y z).2∧Y.5=Y.5∧(∀ (i:Nat),i<Y.5→rE ((Y.sal i).sv.den)∧True∧True∧True∧True)∧Y.5=Y.5∧(∀ (i:Nat),i<Y.5→rE ((i6 (stF Y.sal Y.q i)).den)∧True)∧(e17 ((crA (fun i=>stiOf (Y.sti i).sv) Y.m (Int.toNat (0:Int)) (r17 (stC Y.g Y.st))).getD j zC) ((bsP Y z).fst) (True)))∧(¬(bsP Y z).2<(seS (fun i=>salOf (Y.sal i).sv) (iOf fun i=>i6 (stF Y.sal Y.q i)) (c6 (((crA (fun i=>stiOf (Y.sti i).sv) Y.m (Int.toNat (0:Int)) (r17 (stC Y.g Y.st))).getD j zC).l)) Y.q).3 - ((crA (fun i=>stiOf (Y.sti i).sv) Y.m (Int.toNat (0:Int)) (r17 (stC Y.g Y.st))).getD j zC).3→∃ (z_1:Nat),(z_1=j.succ∧True)∧Y.1=Y.1
∧ (∀ (i:Nat),i<Y.1→rE ((i6 (Y.st i)).den)∧True)∧Y.3=Y.3∧(∀ (i:Nat),i<Y.3→rE ((Y.sti i).sv.den)∧True∧True∧(∀ (i_1:Nat),i_1<(Y.sti i).3→True∧True∧True)∧True∧True∧True)∧Y.5=Y.5∧(∀ (i:Nat),i<Y.5→rE ((Y.sal i).sv.den)∧True∧True∧True∧True)∧(bsP Y z).2=(bsP Y z_1).2∧Y.5=Y.5∧(∀ (i:Nat),i<Y.5→rE ((Y.sal i).sv.den)∧True∧True∧True∧True)∧Y.5=Y.5∧(∀ (i:Nat),i<Y.5→rE ((i6 (stF Y.sal Y.q i)).den)∧True)∧(e17 ((bsP Y z).fst) ((bsP Y z_1).fst) (True))))∧∀ (z:Nat),z=(crA (fun i=>stiOf (Y.sti i).sv) Y.m (Int.toNat (0:Int)) (r17 (stC Y.g Y.st))).length∧True→(0:Nat)<(1:Nat)∧(0:Int)≤(↑Y.3:Int)∧(↑Y.3:Int)≤(↑Y.3:Int)∧(↑Y.3:Int)≤(1048576:Int)∧(↑Y.3:Int)*(↑(8:Nat):Int)≤(140737488355328:Int)∧(0:Int)≤(0:Int)∧(0:Int)≤(↑(4:Nat):Int)∧(↑(4
: Nat):Int)≤(↑(4:Nat):Int)∧rE (0:Nat)∧rE ((↑Y.3:Int).toNat)∧(↑Y.3:Int).toNat≤((↑(4:Nat):Int) - (0:Int)).toNat∧(0:Nat)+((↑(4:Nat):Int) - (0:Int)).toNat≤(17:Nat)∧(0:Nat)<(1:Nat)∧(0:Nat)<(1:Nat)∧(↑Y.3:Int).toNat=pnN Y∧(0:Nat)+pnN Y≤(↑Y.3:Int).toNat∧(∀ (i:Nat),i<pnN Y→rE (1:Nat)∧rE (1:Nat)∧cellZ (bsP Y z).fst.cells ((0:Nat)+(i+(0:Nat)))=pnF Y i∧True)∧(bsP Y z).2=pnI Y∧(0:Int)=pnE Y∧True)):=by kernel_rfl
end Go.Proofs.Ytifjghgejnkdoaa

namespace Go.Proofs.Ytifjghgejnkdoaa
open Go Go.Lg
end Go.Proofs.Ytifjghgejnkdoaa

set_option maxRecDepth 100000
namespace Go.Proofs.Ytifjghgejnkdoaa
open Go Go.Lg
attribute [local irreducible] funS bodyH
theorem okSs_of {Y:Yd} (h:okYd Y):okSs Y.m Y.sti:=⟨h.s.a,fun i hi=>⟨okSt_of (by have:=h.g.b; omega) (h.s.b i hi).2,(h.s.b i hi).2.m0,(h.s.b i hi).2.m1⟩⟩
theorem crL_bd {f:Nat→Sti} {m:Nat} (h:okSs m f):∀ (d:Nat) (c:Crs) (B:Int),d≤m→0≤B→bdC B c→∀ x ∈ crL f m d c,bdC (B+100000000*d) x
 | 0,c,B,_,_,hc,x,hx=>by
  simp only [crL,List.mem_singleton] at hx
  subst hx
  simpa using hc
 | d+1,c,B,hd,hB,hc,x,hx=>by
  simp only [crL,List.mem_flatMap,List.mem_range] at hx
  obtain ⟨t,ht,hx⟩:=hx
  split at hx
  ·obtain ⟨hs,hm⟩:=h.b (m - (d+1)) (by omega)
   have m0:=hm.1
   have m8:=hm.2
   have h1:=nx_bd (a:=((m - (d+1):Nat):Int)) (t:=(t:Int)) hc hB hs ⟨by omega,by omega⟩
   have:=crL_bd h d _ (B+100000000) (by omega) (by omega) (bdC_r h1) x hx
   have e:B+100000000+100000000*(d:Int)=B+100000000*((d+1:Nat):Int):=by push_cast; omega
   rw [e] at this
   exact this
  ·simp at hx
theorem alC_bd {Y:Yd} (h:okYd Y) {j:Nat}:bdC 500000000 ((alC Y).getD j zC):=by
 by_cases hj:j<(alC Y).length
 ·have hm:=h.s.a
  have:=crL_bd (okSs_of h) Y.m (r17 (stC Y.g Y.st)) 100000000 (Nat.le_refl _) (by omega) (bdC_r (st_bd h.g.c)) ((alC Y).getD j zC) (by
   unfold alC crA at hj ⊢
   rw [Nat.sub_zero] at hj ⊢
   simp only [List.getD,List.getElem?_eq_getElem hj,Option.getD_some]
   exact List.getElem_mem hj)
  exact ⟨bd_mono this.1 (by omega),by have:=this.2; omega⟩
 ·have e:(alC Y).getD j zC=zC:=by simp [List.getD,List.getElem?_eq_none (Nat.le_of_not_lt hj)]
  rw [e]
  exact ⟨bd_z (by omega),by show (-500000000:Int)≤0∧(0:Int)≤500000000; omega⟩
theorem cr_p (c:Crs) {z:Nat} (h:z<4):cellZ c.cells z=c.p z:=by
 have:z=0∨z=1∨z=2∨z=3:=by omega
 rcases this with rfl | rfl | rfl | rfl <;> rfl
theorem ow_bd {Y:Yd} (h:okYd Y) {c:Crs} (hc:bdC 500000000 c):-(100000000000000000:Int)≤owC Y c∧owC Y c≤100000000000000000:=by
 have hb1:bdG 10000000000 (c6 c.l):=bd_c6 (bd_mono hc.1 (by omega))
 have cb:=(se_bd (or_of h) hb1 Y.q (Nat.le_refl _)).2
 have q6:=h.l.a
 have:=hc.2
 unfold owC
 omega
theorem pn_true (Y:Yd):pnG Y:=by
 rw [pnG_vc]
 simp only [rI,rE,tt3,tt4,tt5,tt13,tt14,and_true,true_and,Nat.zero_lt_one,and_self,implies_true,Int.toNat_natCast,Nat.zero_add,Nat.add_zero,Nat.one_mul,Nat.mul_one,Classical.not_not,iff_self,Bool.false_eq_true,imp_false,and_imp,true_implies,forall_const,gdV_cells,sc1,sc0,ft_fold,sti_fold,sal_fold,yd_fold,iOf_fold,stiOf_fold,salOf_fold,yv_fold]
 refine ⟨fun h=>⟨by rw [pnN,if_neg h],by rw [pnI,if_neg h],by rw [pnE,if_neg h]⟩,fun h=>?_⟩
 have ho:=or_of h
 have q6:=h.l.a
 have m4:=h.s.a
 have st:=bdC_r (st_bd h.g.c)
 have ea:crA Y.sti Y.m (Int.toNat 0) (r17 (stC Y.g Y.st))=alC Y:=rfl
 rw [ea]
 refine ⟨rfl,q6,⟨rfl,h.g.b,rfl,rfl,fun i hi=>rfl⟩,rfl,⟨by omega,by omega,okSs_of h,?_,by simp; omega⟩,⟨0,rfl,rfl,rfl,rfl,e17_r trivial⟩,fun j hj z hz=>?_,fun z hz=>?_⟩
 ·have e:(100000000:Int)*(0+1)=100000000:=by decide
  rw [e]; exact st
 ·subst hz
  have hb:=alC_bd h (j:=z)
  have eo:(seS Y.sal (stF Y.sal Y.q) (c6 ((alC Y).getD z zC).l) Y.q).c - ((alC Y).getD z zC).c=owC Y ((alC Y).getD z zC):=rfl
  rw [eo]
  have ob:=ow_bd h hb
  refine ⟨rfl,rfl,ho,bd_c6 (bd_mono hb.1 (by omega)),by omega,fun hl=>⟨z+1,rfl,?_,?_⟩,fun hl=>⟨z+1,rfl,?_,?_⟩⟩
  ·simp only [bsP,if_pos hl]
  ·simp only [bsP,if_pos hl]; exact e17_r trivial
  ·simp only [bsP,if_neg hl]
  ·simp only [bsP,if_neg hl]; exact e17_r trivial
 ·subst hz
  have e1:pnN Y=Y.m:=by rw [pnN,if_pos h]
  rw [e1]
  refine ⟨by omega,by omega,by omega,by omega,by omega,by omega,by omega,by omega,by omega,rfl,Nat.le_refl _,fun i hi=>?_,by rw [pnI,if_pos h],by rw [pnE,if_pos h]⟩
  rw [cr_p _ (by omega)]
  rfl
theorem csN_sound:SoundS Try.prog (ctrsF [nmC,cuC] (ctrs [ydC 25,ncC,seC])):=ctrsF_sound (three_cs yd_ok nc_ok se_ok) (by intro x hx; simp at hx; rcases hx with rfl | rfl; exact nm_ok; exact cu_ok)
theorem pn_ok:pnC.Ok Try.prog:=by
 refine ⟨by kernel_rfl,fun x k hk=>?_⟩
 simp only [pnC] at hk
 split at hk
 ·rename_i g st m sti q sal
  obtain ⟨hf,hk⟩:=hk
  have hh:=pn_true (ydOf g st m sti q sal)
  unfold pnG at hh
  rw [← hf] at hh
  exact ⟨_,newD csN_sound nilS_x (ictrs_sound (by intro x hx; simp at hx; subst hx; exact ciC_ok 100)) hh (by simp [flatS,flatSL,scS,SV.cells,iA,pnR]),hk⟩
 ·exact hk.elim
end Go.Proofs.Ytifjghgejnkdoaa

namespace Go.Proofs.Ytifjghgejnkdoaa
open Go Go.Lg
noncomputable def rnL (f:Nat→Sti) (m:Nat) (p:Nat→Int):Nat→Crs→Crs
 | 0,c=>c
 | d+1,c=>rnL f m p d (r17 (nxC c (m - (d+1):Nat) (f (m - (d+1))) (p (m - (d+1)))))
def cnL (f:Nat→Sti) (m:Nat) (p:Nat→Int):Nat→Crs→Prop
 | 0,c=>True
 | d+1,c=>canP c (f (m - (d+1))) (p (m - (d+1)))∧cnL f m p d (r17 (nxC c (m - (d+1):Nat) (f (m - (d+1))) (p (m - (d+1)))))
theorem r17_p {c:Crs} {i:Nat} (h:i<4):(r17 c).p i=c.p i:=by
 have:i=0∨i=1∨i=2∨i=3:=by omega
 rcases this with rfl | rfl | rfl | rfl <;> rfl
theorem mem_p {f:Nat→Sti} {m:Nat} (hm:m≤4) (hs:∀ i,i<m→0≤(f i).most):∀ (d:Nat) (c x:Crs),d≤m→x ∈ crL f m d c→(∀ i,i<m - d→x.p i=c.p i)∧(∀ i,m - d≤i→i<m→okNb (f i).most (x.p i))∧cnL f m x.p d c∧x=rnL f m x.p d c
 | 0,c,x,_,hx=>by
  simp only [crL,List.mem_singleton] at hx
  subst hx
  exact ⟨fun _ _=>rfl,fun i h1 h2=>by omega,trivial,rfl⟩
 | d+1,c,x,hd,hx=>by
  simp only [crL,List.mem_flatMap,List.mem_range] at hx
  obtain ⟨t,ht,hx⟩:=hx
  split at hx
  ·rename_i hc
   obtain ⟨h1,h2,h3,h4⟩:=mem_p hm hs d _ x (by omega) hx
   have ha:m - (d+1)<m - d:=by omega
   have e:=h1 _ ha
   rw [r17_p (by omega)] at e
   have e:x.p (m - (d+1))=t:=by rw [e]; simp [nxC]
   have m0:=hs (m - (d+1)) (by omega)
   refine ⟨fun i hi=>?_,fun i hi1 hi2=>?_,?_,?_⟩
   ·rw [h1 i (by omega),r17_p (by omega)]
    simp only [nxC]
    rw [if_neg (by omega)]
   ·by_cases hh:i=m - (d+1)
    ·subst hh; rw [e]; exact ⟨by omega,by omega⟩
    ·exact h2 i (by omega) hi2
   ·simp only [cnL,e]; exact ⟨hc,h3⟩
   ·simp only [rnL,e]; exact h4
  ·simp at hx
theorem mem_of {f:Nat→Sti} {m:Nat} {p:Nat→Int}:∀ (d:Nat) (c:Crs),d≤m→(∀ i,m - d≤i→i<m→okNb (f i).most (p i))→cnL f m p d c→rnL f m p d c ∈ crL f m d c
 | 0,c,_,_,_=>by simp [crL,rnL]
 | d+1,c,hd,hb,hc=>by
  simp only [cnL] at hc
  have b:=hb (m - (d+1)) (by omega) (by omega)
  unfold okNb at b
  have ih:=mem_of d _ (by omega) (fun i h1 h2=>hb i (by omega) h2) hc.2
  simp only [crL,rnL,List.mem_flatMap,List.mem_range]
  refine ⟨(p (m - (d+1))).toNat,by omega,?_⟩
  have e:(((p (m - (d+1))).toNat:Nat):Int)=p (m - (d+1)):=by omega
  rw [e,if_pos hc.1]
  exact ih
def lexC (m:Nat) (x y:Nat→Int):Prop:=∃ i,i<m∧(∀ k,k<i→x k=y k)∧x i<y i
theorem crL_lex {f:Nat→Sti} {m:Nat} (hm:m≤4) (hs:∀ i,i<m→0≤(f i).most):∀ (d:Nat) (c:Crs),d≤m→List.Pairwise (fun x y=>lexC m x.p y.p) (crL f m d c)
 | 0,c,_=>by simp [crL]
 | d+1,c,hd=>by
  simp only [crL]
  rw [List.pairwise_flatMap]
  refine ⟨fun t ht=>?_,?_⟩
  ·split
   ·exact crL_lex hm hs d _ (by omega)
   ·exact List.Pairwise.nil
  ·refine List.Pairwise.imp ?_ List.pairwise_lt_range
   intro t1 t2 ht x hx y hy
   split at hx
   ·split at hy
    ·obtain ⟨a1,_⟩:=mem_p hm hs d _ x (by omega) hx
     obtain ⟨b1,_⟩:=mem_p hm hs d _ y (by omega) hy
     refine ⟨m - (d+1),by omega,fun k hk=>?_,?_⟩
     ·rw [a1 k (by omega),b1 k (by omega),r17_p (by omega),r17_p (by omega)]
      simp only [nxC]
      rw [if_neg (by omega),if_neg (by omega)]
     ·rw [a1 _ (by omega),b1 _ (by omega),r17_p (by omega),r17_p (by omega)]
      simp only [nxC,if_true]
      omega
    ·simp at hy
   ·simp at hx
structure eqC (c d:Crs):Prop where
 p:∀ i,i<4→c.p i=d.p i
 l:∀ i,i<6→c.l i=d.l i
 c:c.c=d.c
theorem nx_eq {c d:Crs} {a:Int} {s:Sti} {t:Int} (h:eqC c d):eqC (r17 (nxC c a s t)) (nxC d a s t):=by
 refine ⟨fun i hi=>?_,fun i hi=>?_,?_⟩
 ·rw [r17_p hi]; simp only [nxC,h.p i hi]
 ·show c6 _ i=_
  rw [c6_eq hi]; simp only [nxC,adG,h.l i hi]
 ·show c.c+_=d.c+_
  rw [h.c]
theorem can_eq {c d:Crs} {s:Sti} {t:Int} (h:eqC c d) (hi:s.inn.toNat<6):canP c s t↔canP d s t:=by
 unfold canP; rw [h.l _ hi]
theorem rn_eq {Y:Yd} {p:Nat→Int} (hi:∀ i,i<Y.m→(Y.sti i).inn.toNat<6):∀ (d:Nat) (c:Crs),d≤Y.m→eqC c (plX Y p (Y.m - d))→eqC (rnL Y.sti Y.m p d c) (plX Y p Y.m)∧(cnL Y.sti Y.m p d c↔∀ i,Y.m - d≤i→i<Y.m→canP (plX Y p i) (Y.sti i) (p i))
 | 0,c,_,h=>⟨by simpa [rnL] using h,⟨fun _ i h1 h2=>by omega,fun _=>trivial⟩⟩
 | d+1,c,hd,h=>by
  have e:Y.m - d=(Y.m - (d+1))+1:=by omega
  have hn:eqC (r17 (nxC c (Y.m - (d+1):Nat) (Y.sti (Y.m - (d+1))) (p (Y.m - (d+1))))) (plX Y p (Y.m - d)):=by
   rw [e]; exact nx_eq h
  obtain ⟨h1,h2⟩:=rn_eq hi d _ (by omega) hn
  refine ⟨h1,?_⟩
  simp only [cnL]
  rw [h2,can_eq h (hi _ (by omega))]
  constructor
  ·rintro ⟨a,b⟩ i h3 h4
   by_cases hh:i=Y.m - (d+1)
   ·subst hh; exact a
   ·exact b i (by omega) h4
  ·intro hh
   exact ⟨hh _ (by omega) (by omega),fun i h3 h4=>hh i (by omega) h4⟩
noncomputable def inO (Y:Yd) (p:Nat→Int):Int:=(inS Y p).c - (plX Y p Y.m).c
theorem ow_eq {Y:Yd} (h:okYd Y) {p:Nat→Int} {x:Crs} (hx:eqC x (plX Y p Y.m)):owC Y x=inO Y p:=by
 unfold owC inO inS
 rw [(se_congr (or_of h) (fun i hi=>by rw [c6_eq hi,hx.l i hi]) Y.q (Nat.le_refl _)).2.2,hx.c]
section
variable {Y:Yd} (h:okYd Y)
include h
theorem inn_lt:∀ i,i<Y.m→(Y.sti i).inn.toNat<6:=fun i hi=>by
 have s:=okSt_of (by have:=h.g.b; omega) (h.s.b i hi).2
 have:=s.i0
 have:=s.i1
 omega
omit h in
theorem alC_def (Y:Yd):alC Y=crL Y.sti Y.m Y.m (r17 (stC Y.g Y.st)):=by unfold alC crA; rw [Nat.sub_zero]
theorem al_mem {j:Nat} (hj:j<(alC Y).length):okPl Y.m Y.sti Y.m ((alC Y).getD j zC).p∧canL Y ((alC Y).getD j zC).p Y.m∧eqC ((alC Y).getD j zC) (plX Y ((alC Y).getD j zC).p Y.m):=by
 have hx:(alC Y).getD j zC ∈ crL Y.sti Y.m Y.m (r17 (stC Y.g Y.st)):=by
  rw [← alC_def Y]
  simp only [List.getD,List.getElem?_eq_getElem hj,Option.getD_some]
  exact List.getElem_mem hj
 obtain ⟨-,h2,h3,h4⟩:=mem_p h.s.a (fun i hi=>(h.s.b i hi).2.m0) Y.m _ _ (Nat.le_refl _) hx
 have hst:eqC (r17 (stC Y.g Y.st)) (plX Y ((alC Y).getD j zC).p (Y.m - Y.m)):=by
  rw [Nat.sub_self]; exact ⟨fun i hi=>r17_p hi,fun i hi=>c6_eq hi,rfl⟩
 obtain ⟨h5,h6⟩:=rn_eq (inn_lt h) Y.m _ (Nat.le_refl _) hst
 refine ⟨⟨rfl,fun i hi=>h2 i (by omega) hi⟩,fun i hi=>h6.1 h3 i (by omega) hi,?_⟩
 rw [← h4] at h5; exact h5
theorem al_of {p:Nat→Int} (hp:okPl Y.m Y.sti Y.m p) (hc:canL Y p Y.m):∃ j,j<(alC Y).length∧eqC ((alC Y).getD j zC) (plX Y p Y.m)∧∀ i,i<Y.m→((alC Y).getD j zC).p i=p i:=by
 have hst:eqC (r17 (stC Y.g Y.st)) (plX Y p (Y.m - Y.m)):=by
  rw [Nat.sub_self]; exact ⟨fun i hi=>r17_p hi,fun i hi=>c6_eq hi,rfl⟩
 obtain ⟨h5,h6⟩:=rn_eq (inn_lt h) Y.m _ (Nat.le_refl _) hst
 have hm:=mem_of Y.m (r17 (stC Y.g Y.st)) (Nat.le_refl _) (fun i _ hi=>hp.h i hi) (h6.2 fun i _ hi=>hc i hi)
 rw [← alC_def Y] at hm
 obtain ⟨j,hj,e⟩:=List.getElem_of_mem hm
 have e2:(alC Y).getD j zC=rnL Y.sti Y.m p Y.m (r17 (stC Y.g Y.st)):=by simp only [List.getD,List.getElem?_eq_getElem hj,Option.getD_some,e]
 refine ⟨j,hj,by rw [e2]; exact h5,fun i hi=>?_⟩
 rw [e2,h5.p i (by have:=h.s.a; omega)]
 have key:∀ k,i<k→(plX Y p k).p i=p i:=by
  intro k
  induction k with
  | zero=>intro h; omega
  | succ k ih =>
   intro hk
   show (if (i:Int)=(k:Int) then p k else (plX Y p k).p i)=p i
   by_cases e:i=k
   ·subst e; rw [if_pos rfl]
   ·rw [if_neg (by omega)]; exact ih (by omega)
 exact key Y.m hi
theorem al_lt {j j':Nat} (hj:j<j') (hj':j'<(alC Y).length):lexC Y.m ((alC Y).getD j zC).p ((alC Y).getD j' zC).p:=by
 have hp:=crL_lex (f:=Y.sti) (m:=Y.m) h.s.a (fun i hi=>(h.s.b i hi).2.m0) Y.m (r17 (stC Y.g Y.st)) (Nat.le_refl _)
 rw [← alC_def Y,List.pairwise_iff_getElem] at hp
 have:=hp j j' (by omega) hj' hj
 simp only [List.getD,List.getElem?_eq_getElem (show j<(alC Y).length by omega),List.getElem?_eq_getElem hj',Option.getD_some]
 exact this
omit h in
theorem bs_inv (Y:Yd):∀ j,0≤(bsP Y j).2∧(∀ i,i<j→owC Y ((alC Y).getD i zC)≤(bsP Y j).2)∧((bsP Y j=(zC,0))∨∃ i,i<j∧bsP Y j=((alC Y).getD i zC,owC Y ((alC Y).getD i zC))∧∀ i',i'<i→owC Y ((alC Y).getD i' zC)<owC Y ((alC Y).getD i zC))
 | 0=>⟨Int.le_refl 0,fun i hi=>by omega,.inl rfl⟩
 | j+1=>by
  obtain ⟨h1,h2,h3⟩:=bs_inv Y j
  by_cases hl:(bsP Y j).2<owC Y ((alC Y).getD j zC)
  ·have e:bsP Y (j+1)=((alC Y).getD j zC,owC Y ((alC Y).getD j zC)):=by simp only [bsP,if_pos hl]
   rw [e]
   refine ⟨by simp only; omega,fun i hi=>?_,.inr ⟨j,by omega,rfl,fun i' hi'=>by have:=h2 i' hi'; omega⟩⟩
   by_cases hh:i=j
   ·subst hh; exact Int.le_refl _
   ·have:=h2 i (by omega); simp only; omega
  ·have e:bsP Y (j+1)=bsP Y j:=by simp only [bsP,if_neg hl]
   rw [e]
   refine ⟨h1,fun i hi=>?_,h3.imp id fun ⟨i,a,b⟩=>⟨i,by omega,b⟩⟩
   by_cases hh:i=j
   ·subst hh; omega
   ·exact h2 i (by omega)
theorem pl_zero:∀ k,k≤Y.m→canL Y (fun _=>0) k∧(∀ i,i<6→0≤((plX Y (fun _=>0) k).l i).lo)∧(plX Y (fun _=>0) k).c=0
 | 0,_=>⟨fun i hi=>by omega,fun i hi=>by
   show 0≤(if i<Y.g then (⟨Y.st i,Y.st i⟩:Tw) else ⟨0,0⟩).lo
   split
   ·rename_i hg; exact (h.g.c i hg).1
   ·exact Int.le_refl 0,rfl⟩
 | k+1,hk=>by
  obtain ⟨h1,h2,h3⟩:=pl_zero k (by omega)
  have hin:=inn_lt h k (by omega)
  have hc:canP (plX Y (fun _=>0) k) (Y.sti k) 0:=by
   unfold canP; rw [Int.zero_mul]; exact h2 _ hin
  refine ⟨fun i hi=>?_,fun i hi=>?_,?_⟩
  ·by_cases e:i=k
   ·subst e; exact hc
   ·exact h1 i (by omega)
  ·show 0≤(0+((plX Y (fun _=>0) k).l i).lo+(tkG (Y.sti k) 0 i).lo)+(mdG (Y.sti k) 0 (Y.sti k).on i).lo
   have:=h2 i hi
   unfold tkG mdG
   split <;> split <;> simp <;> omega
  ·show (plX Y (fun _=>0) k).c+0*(Y.sti k).pay=0
   rw [h3]; simp
omit h in
theorem se_nonneg {Y:Yd} {L:Nat→Tw} {o:Nat→Int} (ho:okOr Y.q Y.sal o) (hL:∀ i,i<6→0≤(L i).lo):∀ k,k≤Y.q→(∀ i,i<6→0≤((seS Y.sal o L k).l i).lo)∧0≤(seS Y.sal o L k).c
 | 0,_=>⟨hL,Int.le_refl 0⟩
 | k+1,hk=>by
  obtain ⟨h1,h2⟩:=se_nonneg ho hL k (by omega)
  have b:=ho.b k (by omega)
  have hs:=ho.s.b (o k).toNat (by omega)
  have g0:=hs.g0
  have g1:=hs.g1
  have m0:=hs.m0
  have l:=h1 (Y.sal (o k).toNat).good.toNat (by omega)
  have av:0≤ssA Y.sal (seS Y.sal o L k) (o k):=by unfold ssA; omega
  refine ⟨fun i hi=>?_,?_⟩
  ·have hi':=h1 i hi
   by_cases e:i=(Y.sal (o k).toNat).good.toNat
   ·have el:(seS Y.sal o L (k+1)).l i=⟨((seS Y.sal o L k).l i).lo - ssA Y.sal (seS Y.sal o L k) (o k),((seS Y.sal o L k).l i).hi⟩:=by simp only [seS,ssN,if_pos e]
    rw [el]
    unfold ssA
    rw [← e]
    simp only
    omega
   ·have el:(seS Y.sal o L (k+1)).l i=(seS Y.sal o L k).l i:=by simp only [seS,ssN,if_neg e]
    rw [el]; exact hi'
  ·have p:=Int.mul_nonneg av hs.p0
   show 0≤(seS Y.sal o L k).c+ssA Y.sal (seS Y.sal o L k) (o k)*(Y.sal (o k).toNat).price
   omega
theorem best_spec:okPl Y.m Y.sti Y.m (pnF Y)∧canL Y (pnF Y) Y.m∧inO Y (pnF Y)=pnI Y∧∀ p,okPl Y.m Y.sti Y.m p→canL Y p Y.m→inO Y p≤pnI Y∧(inO Y p=pnI Y→¬ lexC Y.m p (pnF Y)):=by
 have eI:pnI Y=(bsP Y (alC Y).length).2:=by rw [pnI,if_pos h]
 obtain ⟨h1,h2,h3⟩:=bs_inv Y (alC Y).length
 have up:∀ p,okPl Y.m Y.sti Y.m p→canL Y p Y.m→inO Y p≤pnI Y:=fun p hp hc=>by
  obtain ⟨j,hj,he,-⟩:=al_of h hp hc
  rw [eI,← ow_eq h he]; exact h2 j hj
 rcases h3 with h3 | ⟨i,hi,h3,h4⟩
 ·have eF:pnF Y=fun _=>0:=by unfold pnF; rw [h3]; rfl
  have e0:pnI Y=0:=by rw [eI,h3]
  obtain ⟨z1,z2,z3⟩:=pl_zero h Y.m (Nat.le_refl _)
  have hok:okPl Y.m Y.sti Y.m (fun _=>0):=⟨rfl,fun i hi=>⟨Int.le_refl 0,(h.s.b i hi).2.m0⟩⟩
  have hs:=(se_nonneg (or_of h) z2 Y.q (Nat.le_refl _)).2
  have hz:0≤inO Y (fun _=>0):=by unfold inO inS; rw [z3]; omega
  rw [eF]
  refine ⟨hok,z1,by have:=up _ hok z1; omega,fun p hp hc=>⟨up p hp hc,fun _ ⟨i,hi,_,hl⟩=>?_⟩⟩
  have:=(hp.h i hi).1
  have hl:p i<0:=hl
  omega
 ·obtain ⟨m1,m2,m3⟩:=al_mem h hi
  have eF:pnF Y=((alC Y).getD i zC).p:=by unfold pnF; rw [h3]
  have eo:inO Y (pnF Y)=pnI Y:=by rw [eI,h3,eF,← ow_eq h m3]
  rw [eF] at eo ⊢
  refine ⟨m1,m2,eo,fun p hp hc=>⟨up p hp hc,fun he hl=>?_⟩⟩
  obtain ⟨j,hj,hje,hjp⟩:=al_of h hp hc
  have hjo:owC Y ((alC Y).getD j zC)=owC Y ((alC Y).getD i zC):=by rw [ow_eq h hje,he,eI,h3]
  obtain ⟨k,hk,hk1,hk2⟩:=hl
  rcases Nat.lt_trichotomy j i with hji | hji | hji
  ·have:=h4 j hji; omega
  ·subst hji
   have:=hjp k hk
   omega
  ·obtain ⟨k',hk',hk1',hk2'⟩:=al_lt h hji hj
   rw [hjp k' hk'] at hk2'
   rcases Nat.lt_trichotomy k k' with e | e | e
   ·have:=hk1' k e
    rw [hjp k hk] at this
    omega
   ·subst e; omega
   ·have:=hk1 k' e
    omega
end
end Go.Proofs.Ytifjghgejnkdoaa
