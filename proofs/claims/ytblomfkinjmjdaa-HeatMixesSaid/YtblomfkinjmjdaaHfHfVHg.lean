import Derived.Test.YtblomfkinjmjdaaHdHdVHe
set_option linter.unusedVariables false
set_option linter.unusedSimpArgs false
set_option maxRecDepth 100000
namespace Go.Proofs.Ytblomfkinjmjdaa
open Go Go.Lg
attribute [local irreducible] bodyH funS
theorem csTr_ok:SoundS Try.prog csTr:=ctrs_sound (by intro x hx; simp at hx; rcases hx with rfl | rfl | rfl; exact wiM_ok; exact pa_ok; exact be_ok)
theorem seX_ch (L:Sl) (D:Dm) (s s':Ss):setRows (seX L D s []) [(2,SRow.v 8 s'.b.sv),(3,SRow.v 1 (fbV s'.fb))]=seX L D s' []:=by kernel_rfl
theorem tr_ok:∀ (d K:Nat),5 - K≤d→(trC K).Ok Try.prog
 | d,K,hd=>by
  refine ⟨by kernel_rfl,fun p hp=>?_⟩
  obtain ⟨L,D,s,m,k⟩:=p
  have hK:K≤k:=hp.K
  have hk:k≤L.n:=hp.k
  have hn:L.n≤4:=hp.n
  have eX:(trC K).X1 ⟨L,D,s,m,k⟩=seX L D (TrP.mk L D s m k).s' []:=seX_ch L D s _
  rw [eX]
  show WrOK Try.prog 54 (seX L D s []) (seX L D (TrP.mk L D s m k).s' []) [m.sv,i6 k,.ptr 0 0 0,.ptr 2 0 0,.ptr 3 0 0,.ptr 1 0 0,.ptr 4 0 0,.ptr 5 0 0] (.tup [])
  rcases Nat.lt_or_eq_of_le hk with h | h
  ·have e:(TrP.mk L D s m k).s'=itS' L D k m s ((L.f k).mo.toNat+1):=by
    show trF L D (L.n - k) k (xOf m) s=_
    rw [show L.n - k=(L.n - (k+1))+1 by omega]
    rfl
   rw [e]
   have hh:=trG_true (s:=s) ⟨hp.n,hp.L,hp.D,hp.k,Nat.le_refl _,hp.m,hp.b,hp.pa,hp.be,hp.c⟩ h
   unfold trG at hh
   match d,hd with
   | 0,hd=>omega
   | d+1,hd =>
    exact wrH_ok csTr_ok (ctrsW_sound noX_sound (by intro x hx; simp at hx; subst hx; exact tr_ok d (k+1) (by omega))) nilS_ic mixed hh
  ·have e:(TrP.mk L D s m k).s'=⟨True,m⟩:=by
    show trF L D (L.n - k) k (xOf m) s=_
    rw [h,Nat.sub_self]
    have hm:m=mxOf L (xOf m) k:=hp.m
    rw [h] at hm
    simp only [trF]
    rw [← hm]
   rw [e,h]
   have hh:=trE_true (L:=L) (D:=D) (m:=m) (s:=s)
   unfold trE at hh
   exact wrH_ok csTr_ok noX_sound nilS_ic mixed hh
def zM:Mx:=⟨0,0,0,0,0,0,0,0⟩
open Classical in
noncomputable def chS (L:Sl) (D:Dm):Ss:=if beyP D zM (rvV L 0) (rvC L 0) then ⟨False,zM⟩ else trF L D L.n 0 (xOf zM) ⟨False,zM⟩
noncomputable def chG (L:Sl) (D:Dm):Prop:=funH Try.prog (ctrs [reC,beC]) (ctrsW [trC 0] noX) (ictrs []) noL noL 35 [L.sv,D.sv] (.tup [(chS L D).b.sv,fbV (chS L D).fb])
noncomputable def chC:Ctr:=⟨35,fun args k=>match args with
 | [.lst 5 n f,.agg [.int .i64 a,.int .i64 b,.int .i64 c]]=>SV.lst 5 n f=(slOf n f).sv∧n≤4∧okSl (slOf n f)∧okD ⟨a,b,c⟩∧1≤a∧k (.tup [(chS (slOf n f) ⟨a,b,c⟩).b.sv,fbV (chS (slOf n f) ⟨a,b,c⟩).fb])
 | _=>False⟩
def dmOf (v a b:Int):Dm:=⟨v,a*v,b*v⟩
open Classical in
noncomputable def erX (L:Sl) (v a b:Int):Int:=if 4<L.n then 3 else if okSl L then (if (1≤v∧v≤80)∧okSp a b then (if (chS L (dmOf v a b)).fb then 0 else 4) else 2) else 1
open Classical in
noncomputable def ptL (L:Sl) (v a b:Int):SV:=.lst 1 (if erX L v a b=0 then L.n else 0) (fun i=>.agg [i6 (xOf (chS L (dmOf v a b)).b i)])
open Classical in
noncomputable def ctX (L:Sl) (v a b:Int):Int:=if erX L v a b=0 then (chS L (dmOf v a b)).b.cost else 0
noncomputable def mxG (L:Sl) (v a b:Int):Prop:=funN Try.prog (ctrs [vlC,frC,vhC,chC]) noX (ictrs []) noL noL 11 [L.sv,i6 v,i6 a,i6 b] (.tup [ptL L v a b,i6 (ctX L v a b),i6 (erX L v a b)])
end Go.Proofs.Ytblomfkinjmjdaa

set_option maxRecDepth 100000
namespace Go.Proofs.Ytblomfkinjmjdaa
open Go Go.Lg

theorem chG_vc (L:Sl) (D:Dm):chG L D=((0:Nat)<(1:Nat)∧(∀ (i:Nat),i<L.1→True∧True∧True∧True∧True∧True)∧rE L.sv∧L.1≤(4:Nat)∧okSl L∧(0:Nat)<(1:Nat)∧(0:Nat)<(1:Nat)∧okM (Mx.mk (0:Int) (0:Int) (0:Int) (0:Int) (0:Int) (0:Int) (0:Int) (0:Int))∧((0:Int)≤lfI L (0:Nat)∧lfI L (0:Nat)≤(1000000000:Int))∧((0:Int)≤lfI L (1:Nat)∧lfI L (1:Nat)≤(1000000000:Int))∧(¬beyP D (Mx.mk (0:Int) (0:Int) (0:Int) (0:Int) (0:Int) (0:Int) (0:Int) (0:Int)) (lfI L (0:Nat)) (lfI L (1:Nat))→(0:Nat)<(1:Nat)∧rE L.sv∧TrP.ok (0:Nat) (TrP.mk L D (Ss.mk (boF ((SRow.v (Try.prog.cellsOf (4:Nat)) (ofS (Value.bool false))).f (0:Nat))) (Mx.mk (0:Int) (0:Int) (0:Int) (0:Int) (0:Int) (0:Int) (0:Int) (0:Int))) (Mx.mk (0:Int) (0:Int) (0:Int) (0:Int) (0:Int) (0:Int) (0:Int) (0:Int)) (Int.toNat (0:Int)))∧rE (0:Int)∧rE (0:Int)∧rE (0:Int)∧rE (0:Int)∧rE (0:Int)∧rE (0:Int)∧rE (0:Int)∧rE (0:Int)∧(0:Int)=(↑(0:Nat):Int)∧rE (0:Nat)∧rE (0:Nat)∧rE (0:Nat)∧rE (0:Nat)∧rE (0:Nat)∧rE (0:Nat)∧rE (0:Nat)∧rE (0:Nat)∧rE (0:Nat)∧rE (0:Nat)∧rE (0:Nat)∧rE (0:Nat)∧L.1=L.1∧(∀ (i:Nat),i<L.1→rE ((L.f i).sv.den))∧D.1=D.1∧D.2=D.2∧D.3=D.3∧rE (0:Int)∧rE (0:Int)∧rE (0:Int)∧rE (0:Int)∧rE (0:Int)∧rE (0:Int)∧rE (0:Int)∧rE (0:Int)∧(false=true↔boF ((SRow.v (Try.prog.cellsOf (4:Nat)) (ofS (Value.bool false))).f (0:Nat)))∧rE (lfI L (0:Nat))∧rE (lfI L (1:Nat))∧rE (lfI L (2:Nat))∧rE (lfI L (3:Nat))∧rE (lfI L (4:Nat))∧rE (lfI L (5:Nat))∧rE (lfI L (6:Nat))∧rE (lfI L (7:Nat))∧rE (lfI L (8:Nat))∧rE (lfI L (9:Nat))∧rE (0:Nat)∧rE (0:Nat)∧rE (0:Nat)∧rE (0:Nat)∧rE (0:Nat)∧rE (0:Nat)∧rE (0:Nat)∧rE (0:Nat)∧rE (0:Nat)∧rE (0:Nat)∧rE (0:Nat)∧rE (0:Nat)∧((0:Nat)<(1:Nat)∧((0:Nat)<(1:Nat)∧(((0:Nat)<(1:Nat)∧(0:Nat)<(1:Nat)∧eqB (TrP.mk L D (Ss.mk (boF ((SRow.v (Try.prog.cellsOf (4:Nat)) (ofS (Value.bool false))).f (0:Nat))) (Mx.mk (0:Int) (0:Int) (0:Int) (0:Int) (0:Int) (0:Int) (0:Int) (0:Int))) (Mx.mk (0:Int) (0:Int) (0:Int) (0:Int) (0:Int) (0:Int) (0:Int) (0:Int)) (Int.toNat (0:Int))).s'.b (chS L D).b (((TrP.mk L D (Ss.mk (boF ((SRow.v (Try.prog.cellsOf (4:Nat)) (ofS (Value.bool false))).f (0:Nat))) (Mx.mk (0:Int) (0:Int) (0:Int) (0:Int) (0:Int) (0:Int) (0:Int) (0:Int))) (Mx.mk (0:Int) (0:Int) (0:Int) (0:Int) (0:Int) (0:Int) (0:Int) (0:Int)) (Int.toNat (0:Int))).s'.1↔(chS L D).1)∧True))∧True)∧True)∧(((0:Nat)<(1:Nat)∧((0:Nat)<(1:Nat)∧(0:Nat)<(1:Nat)∧eqB (TrP.mk L D (Ss.mk (boF ((SRow.v (Try.prog.cellsOf (4:Nat)) (ofS (Value.bool false))).f (0:Nat))) (Mx.mk (0:Int) (0:Int) (0:Int) (0:Int) (0:Int) (0:Int) (0:Int) (0:Int))) (Mx.mk (0:Int) (0:Int) (0:Int) (0:Int) (0:Int) (0:Int) (0:Int) (0:Int)) (Int.toNat (0:Int))).s'.b (chS L D).b (((TrP.mk L D (Ss.mk (boF ((SRow.v (Try.prog.cellsOf (4:Nat)) (ofS (Value.bool false))).f (0:Nat))) (Mx.mk (0:Int) (0:Int) (0:Int) (0:Int) (0:Int) (0:Int) (0:Int) (0:Int))) (Mx.mk (0:Int) (0:Int) (0:Int) (0:Int) (0:Int) (0:Int) (0:Int) (0:Int)) (Int.toNat (0:Int))).s'.1↔(chS L D).1)∧True))∧True)∧True)∧True)∧((0:Nat)<(1:Nat)∧((0:Nat)<(1:Nat)∧(((0:Nat)<(1:Nat)∧(0:Nat)<(1:Nat)∧eqB (TrP.mk L D (Ss.mk (boF ((SRow.v (Try.prog.cellsOf (4:Nat)) (ofS (Value.bool false))).f (0:Nat))) (Mx.mk (0:Int) (0:Int) (0:Int) (0:Int) (0:Int) (0:Int) (0:Int) (0:Int))) (Mx.mk (0:Int) (0:Int) (0:Int) (0:Int) (0:Int) (0:Int) (0:Int) (0:Int)) (Int.toNat (0:Int))).s'.b (chS L D).b (((TrP.mk L D (Ss.mk (boF ((SRow.v (Try.prog.cellsOf (4:Nat)) (ofS (Value.bool false))).f (0:Nat))) (Mx.mk (0:Int) (0:Int) (0:Int) (0:Int) (0:Int) (0:Int) (0:Int) (0:Int))) (Mx.mk (0:Int) (0:Int) (0:Int) (0:Int) (0:Int) (0:Int) (0:Int) (0:Int)) (Int.toNat (0:Int))).s'.1↔(chS L D).1)∧True))∧True)∧True)∧True)∧True)∧(¬¬beyP D (Mx.mk (0:Int) (0:Int) (0:Int) (0:Int) (0:Int) (0:Int) (0:Int) (0:Int)) (lfI L (0:Nat)) (lfI L (1:Nat))→((0:Nat)<(1:Nat)∧((0:Nat)<(1:Nat)∧(((0:Nat)<(1:Nat)∧(0:Nat)<(1:Nat)∧(0:Int)=(chS L D).b.1∧(0:Int)=(chS L D).b.2∧(0:Int)=(chS L D).b.3∧(0:Int)=(chS L D).b.4∧(0:Int)=(chS L D).b.5∧(0:Int)=(chS L D).b.6∧(0:Int)=(chS L D).b.7∧(0:Int)=(chS L D).b.8∧(false=true↔(chS L D).1)∧True)∧True)∧True)∧(((0:Nat)<(1:Nat)∧((0:Nat)<(1:Nat)∧(0:Nat)<(1:Nat)∧(0:Int)=(chS L D).b.1∧(0:Int)=(chS L D).b.2∧(0:Int)=(chS L D).b.3∧(0:Int)=(chS L D).b.4∧(0:Int)=(chS L D).b.5∧(0:Int)=(chS L D).b.6∧(0:Int)=(chS L D).b.7∧(0:Int)=(chS L D).b.8∧(false=true↔(chS L D).1)∧True)∧True)∧True)∧True)∧((0:Nat)<(1:Nat)∧((0:Nat)<(1:Nat)∧(((0:Nat)<(1:Nat)∧(0:Nat)<(1:Nat)∧(0:Int)=(chS L D).b.1∧(0:Int)=(chS L D).b.2∧(0:Int)=(chS L D).b.3∧(0:Int)=(chS L D).b.4∧(0:Int)=(chS L D).b.5∧(0:Int)=(chS L D).b.6∧(0:Int)=(chS L D).b.7∧(0:Int)=(chS L D).b.8∧(false=true↔(chS L D).1)∧True)∧True)∧True)∧True)∧True)):=by kernel_rfl
theorem mxG_vc (L:Sl) (v:Int) (a:Int) (b:Int):mxG L v a b=(((4:Int)<(↑L.1:Int)→((0:Nat)=if erX L v a b=(0:Int) then L.1 else (0:Nat))∧(0:Int)=ctX L v a b∧(3:Int)=erX L v a b∧True)∧(¬(4:Int)<(↑L.1:Int)→(∀ (i:Nat),i<L.1→True∧True∧True∧True∧True∧True)∧rE L.sv∧L.1≤(1000:Nat)∧(¬okSl L→((0:Nat)=if erX L v a b=(0:Int) then L.1 else (0:Nat))∧(0:Int)=ctX L v a b∧(1:Int)=erX L v a b∧True)∧(¬¬okSl L→(¬((1:Int)≤v∧v≤(80:Int))→((0:Nat)=if erX L v a b=(0:Int) then L.1 else (0:Nat))∧(0:Int)=ctX L v a b∧(2:Int)=erX L v a b∧True)∧(¬¬((1:Int)≤v∧v≤(80:Int))→(¬okSp a b→((0:Nat)=if erX L v a b=(0:Int) then L.1 else (0:Nat))∧(0:Int)=ctX L v a b∧(2:Int)=erX L v a b∧True)∧(¬¬okSp a b→rI (a*v)∧rI (b*v)∧(∀ (i:Nat),i<L.1→True∧True∧True∧True∧True∧True)∧rE L.sv∧L.1≤(4:Nat)∧okSl L∧okD (Dm.mk v (a*v) (b*v))∧(1:Int)≤v∧(¬(chS L (Dm.mk v (a*v) (b*v))).1→((0:Nat)=if erX L v a b=(0:Int) then L.1 else (0:Nat))∧(0:Int)=ctX L v a b∧(4:Int)=erX L v a b∧True)∧(¬¬(chS L (Dm.mk v (a*v) (b*v))).1→(0:Int)≤(↑L.1:Int)∧(↑L.1:Int)≤(↑L.1:Int)∧(↑L.1:Int)≤(1048576:Int)∧(↑L.1:Int)*(↑(8:Nat):Int)≤(140737488355328:Int)∧(0:Int)≤(0:Int)∧(0:Int)≤(↑(4:Nat):Int)∧(↑(4:Nat):Int)≤(↑(4:Nat):Int)∧rE (0:Nat)∧rE ((↑L.1:Int).toNat)∧(↑L.1:Int).toNat≤((↑(4:Nat):Int) - (0:Int)).toNat∧(0:Nat)+((↑(4:Nat):Int) - (0:Int)).toNat≤(8:Nat)∧(0:Nat)<(1:Nat)∧((↑L.1:Int).toNat=if erX L v a b=(0:Int) then L.1 else (0:Nat))∧((0:Nat)+if erX L v a b=(0:Int) then L.1 else (0:Nat))≤(↑L.1:Int).toNat∧(∀ (i:Nat),(i<if erX L v a b=(0:Int) then L.1 else (0:Nat))→rE (1:Nat)∧rE (1:Nat)∧cellZ [SV.int IntKind.i64 (chS L (Dm.mk v (a*v) (b*v))).b.p0,SV.int IntKind.i64 (chS L (Dm.mk v (a*v) (b*v))).b.p1,SV.int IntKind.i64 (chS L (Dm.mk v (a*v) (b*v))).b.p2,SV.int IntKind.i64 (chS L (Dm.mk v (a*v) (b*v))).b.p3,SV.int IntKind.i64 (chS L (Dm.mk v (a*v) (b*v))).b.vol,SV.int IntKind.i64 (chS L (Dm.mk v (a*v) (b*v))).b.cold,SV.int IntKind.i64 (chS L (Dm.mk v (a*v) (b*v))).b.hot,SV.int IntKind.i64 (chS L (Dm.mk v (a*v) (b*v))).b.cost] ((0:Nat)+(i+(0:Nat)))=xOf (chS L (dmOf v a b)).b i∧True)∧(chS L (Dm.mk v (a*v) (b*v))).b.8=ctX L v a b∧(0:Int)=erX L v a b∧True)))))):=by kernel_rfl
end Go.Proofs.Ytblomfkinjmjdaa

set_option maxRecDepth 100000
namespace Go.Proofs.Ytblomfkinjmjdaa
open Go Go.Lg
attribute [local irreducible] bodyH funS
theorem boF_z:boF ((SRow.v (Try.prog.cellsOf (4:Nat)) (ofS (Value.bool false))).f (0:Nat))=False:=propext ⟨fun h=>(by cases h),False.elim⟩
theorem ch_true {L:Sl} {D:Dm} (hn:L.n≤4) (hL:okSl L) (hD:okD D):chG L D:=by
 have bd:=rv_bd hL hn 0
 have e0:lfI L 0=rvV L 0:=(lf_even 0).1
 have e1:lfI L 1=rvC L 0:=(lf_even 0).2
 have hz:Mx.mk (0:Int) 0 0 0 0 0 0 0=zM:=rfl
 have d1:=hD.v.1
 have d2:=hD.m.1
 have hT:¬ beyP D zM (rvV L 0) (rvC L 0)→(TrP.mk L D ⟨False,zM⟩ zM (Int.toNat 0)).ok 0:=fun h=>⟨hn,hL,hD,Nat.zero_le _,Nat.zero_le _,rfl,fun i hi=>absurd hi (Nat.not_lt_zero _),fun h=>by
  have z1:zM.vol=0:=rfl
  have z2:zM.hot=0:=rfl
  unfold pasP at h; rw [z1,z2] at h
  change D.vol<0∨D.most<0 at h
  omega,h,fun h=>h.elim⟩
 have hS:¬ beyP D zM (rvV L 0) (rvC L 0)→(TrP.mk L D ⟨False,zM⟩ zM (Int.toNat 0)).s'=chS L D:=fun h=>by
  unfold chS; rw [if_neg h]; rfl
 have hB:beyP D zM (rvV L 0) (rvC L 0)→chS L D=⟨False,zM⟩:=fun h=>by
  unfold chS; rw [if_pos h]
 rw [chG_vc]
 simp only [clR,eqB,eqL,boF_z,hz,e0,e1,rI,rE,tt3,tt4,tt5,tt13,tt14,and_true,true_and,Nat.zero_lt_one,and_self,implies_true,Classical.not_not,iff_self,Bool.false_eq_true]
 have o:okM zM:=⟨by decide,by decide,by decide,by decide⟩
 refine ⟨hn,hL,o,by omega,by omega,fun h=>?_,fun h=>?_⟩
 ·rw [hS h]
  simp only [and_self,and_true]
  exact ⟨hT h,rfl⟩
 ·rw [hB h]
  exact ⟨rfl,rfl,rfl,rfl,rfl,rfl,rfl,rfl,Iff.rfl⟩
theorem ch_ok:chC.Ok Try.prog:=by
 refine ⟨by kernel_rfl,fun x k hk=>?_⟩
 simp only [chC] at hk
 split at hk
 ·rename_i n f a b c
  obtain ⟨hf,h1,h2,h3,h4,hk⟩:=hk
  have hh:=ch_true (L:=slOf n f) (D:=⟨a,b,c⟩) h1 h2 h3
  unfold chG at hh
  rw [← hf] at hh
  exact ⟨_,Does.plain (funH_does (ctrs_sound (by intro x hx; simp at hx; rcases hx with rfl | rfl; exact re_ok; exact be_ok)) (ctrsW_sound noX_sound (by intro x hx; simp at hx; subst hx; exact tr_ok 5 0 (by omega))) nilS_ic mixed hh) (by simp [plainS,plainS.plainL,Mx.sv,Mx.cells,fbV]),hk⟩
 ·exact hk.elim
section
variable {L:Sl} {v a b:Int}
theorem erX3 (h:4<L.n):erX L v a b=3:=by unfold erX; rw [if_pos h]
theorem erX1 (h:¬ 4<L.n) (h1:¬ okSl L):erX L v a b=1:=by unfold erX; rw [if_neg h,if_neg h1]
theorem erX2 (h:¬ 4<L.n) (h1:okSl L) (h2:¬ ((1≤v∧v≤80)∧okSp a b)):erX L v a b=2:=by unfold erX; rw [if_neg h,if_pos h1,if_neg h2]
theorem erX4 (h:¬ 4<L.n) (h1:okSl L) (h2:(1≤v∧v≤80)∧okSp a b) (h3:¬ (chS L (dmOf v a b)).fb):erX L v a b=4:=by unfold erX; rw [if_neg h,if_pos h1,if_pos h2,if_neg h3]
theorem erX0 (h:¬ 4<L.n) (h1:okSl L) (h2:(1≤v∧v≤80)∧okSp a b) (h3:(chS L (dmOf v a b)).fb):erX L v a b=0:=by unfold erX; rw [if_neg h,if_pos h1,if_pos h2,if_pos h3]
theorem okD_of (h2:(1≤v∧v≤80)∧okSp a b):okD (dmOf v a b):=by
 have s1:=h2.2.a
 have s2:=h2.2.b
 have s3:=h2.2.c
 have b1:=mul_bd s1 (by omega:a≤10000) (by omega:0≤v) h2.1.2
 have b2:=mul_bd (by omega:0≤b) s3 (by omega:0≤v) h2.1.2
 exact ⟨by show 0≤v∧v≤1000; omega,by show 0≤a*v∧a*v≤1000000; omega,by show 0≤b*v∧b*v≤1000000; omega⟩
theorem mx_true (hn:L.n≤1000):mxG L v a b:=by
 have er:∀ c:Int,c≠0→erX L v a b=c→((0:Nat)=if erX L v a b=0 then L.n else 0)∧(0:Int)=ctX L v a b∧c=erX L v a b∧True:=fun c hc e=>by
  unfold ctX; rw [e,if_neg hc,if_neg hc]; exact ⟨rfl,rfl,rfl,trivial⟩
 rw [mxG_vc]
 simp only [rI,rE,implies_true,true_and,Classical.not_not,and_self,Int.toNat_natCast]
 refine ⟨fun h=>er 3 (by decide) (erX3 (by omega)),fun h=>⟨hn,fun h1=>er 1 (by decide) (erX1 (by omega) h1),fun h1=>⟨fun h2=>er 2 (by decide) (erX2 (by omega) h1 fun x=>h2 x.1),fun h2=>⟨fun h3=>er 2 (by decide) (erX2 (by omega) h1 fun x=>h3 x.2),fun h3=>?_⟩⟩⟩⟩
 have h4:¬ 4<L.n:=by omega
 have od:=okD_of ⟨h2,h3⟩
 have o1:=od.l
 have o2:=od.m
 change 0≤a*v∧a*v≤1000000 at o1
 change 0≤b*v∧b*v≤1000000 at o2
 refine ⟨by omega,by omega,by omega,h1,od,by omega,fun h5=>er 4 (by decide) (erX4 h4 h1 ⟨h2,h3⟩ h5),fun h5=>?_⟩
 have e0:=erX0 h4 h1 ⟨h2,h3⟩ h5
 rw [e0]
 simp only [if_true,if_pos]
 have i4:((4:Nat):Int)=4:=rfl
 refine ⟨by omega,by omega,by omega,by omega,by omega,by omega,by omega,by omega,by omega,by omega,trivial,by omega,fun i hi=>⟨?_,trivial⟩,?_,trivial,trivial⟩
 ·match i,hi with
  | 0,_=>rfl
  | 1,_=>rfl
  | 2,_=>rfl
  | 3,_=>rfl
  | i+4,hi=>omega
 ·unfold ctX; rw [if_pos e0]; rfl
end
noncomputable def mxC:Ctr:=⟨11,fun args k=>match args with
 | [.lst 5 n f,.int .i64 v,.int .i64 a,.int .i64 b]=>SV.lst 5 n f=(slOf n f).sv∧n≤1000∧k (.tup [ptL (slOf n f) v a b,i6 (ctX (slOf n f) v a b),i6 (erX (slOf n f) v a b)])
 | _=>False⟩
theorem mx_ok:mxC.Ok Try.prog:=by
 refine ⟨by kernel_rfl,fun x k hk=>?_⟩
 simp only [mxC] at hk
 split at hk
 ·rename_i n f v a b
  obtain ⟨hf,h1,hk⟩:=hk
  have hh:=mx_true (L:=slOf n f) (v:=v) (a:=a) (b:=b) h1
  unfold mxG at hh
  rw [← hf] at hh
  exact ⟨_,funN_does (ctrs_sound (by intro x hx; simp at hx; rcases hx with rfl | rfl | rfl | rfl; exact vl_ok; exact fr_ok; exact vh_ok; exact ch_ok)) nilS_x nilS_ic mixed hh (by simp [flatS,flatSL,ptL,scS,SV.cells]),hk⟩
 ·exact hk.elim
end Go.Proofs.Ytblomfkinjmjdaa
