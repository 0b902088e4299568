import Derived.Test.YtpdcajchppoocaaC7
import Derived.Test.YtpdcajchppoocaaC8
set_option linter.unusedVariables false
set_option linter.unusedSimpArgs false
set_option maxRecDepth 100000
namespace Go.Proofs.Ytpdcajchppoocaa
open Go Go.Lg
attribute [local irreducible] bodyH
structure cnI (T:Tn) (w:Nat→Bool) (i:Nat):Prop where
 a:i≤T.nl
def cnQ (T:Tn) (w:Nat→Bool) (i:Nat):Prop:=∀ j,j<i→slQ T w T.hi j=0
noncomputable def cnG (T:Tn) (w:Nat→Bool):Prop:=funY Try.prog (ctrsF [rnC,coE] (ctrs [])) noX (ictrs []) (octrs []) (oneL 0 (natH (cnI T w) (fun i=>T.nl - i) 0 (fun i=>mkF 41 [(7,.lst 1 T.nl fun j=>b6 (slQ T w T.hi j)),(10,.dec (cnQ T w i) (Classical.propDecidable _)),(11,b6 i)]) (fun _=>⟨0,.nil⟩) fun _=>none)) noL 44 [tV T,twL T.nl w] (.dec (clP T w 0) (Classical.propDecidable _))
noncomputable def cnC:Ctr:=⟨44,fun args k=>match args with
 | [x,.lst 1 n f]=>∃ (T:Tn) (w:Nat→Bool),(x=tV T∧SV.lst 1 n f=twL T.nl w∧okR T w)∧k (.dec (clP T w 0) (Classical.propDecidable _))
 | _=>False⟩
structure rmI (T:Tn) (w:Nat→Bool) (k:Nat):Prop where
 n:k≤10000
 lo:∀ p:Nat,p<k→clP T w ((p:Int)+1)
noncomputable def rmG (T:Tn) (w:Nat→Bool):Prop:=funY Try.prog (ctrsF [rrC,cnC,moC] (ctrs [])) noX (ictrs []) (octrs []) (oneL 0 (natH (rmI T w) (fun k=>10000 - k) 1 (fun k=>mkF 37 [(1,twL T.nl w),(2,.ptr 0 0 0),(9,b6 k)]) (fun _=>mkX [vr 7 (tV T)]) fun _=>none)) noL 26 [tV T,twL T.nl w] (.tup [b6 (mrN T T.nl w),b6 (mrE T T.nl w)])
noncomputable def rmB (T:Tn) (n:Nat) (w:Nat→Bool):Prop:=funY Try.prog (ctrsF [rrD] (ctrs [])) noX (ictrs []) (octrs []) noL noL 26 [tV T,twL n w] (.tup [b6 (mrN T n w),b6 (mrE T n w)])
noncomputable def mlH (T:Tn) (n:Nat) (w:Nat→Bool):HSpec :=
 { toLSpec:={ σ:=Nat × Int,inv:=fun z=>z.1≤T.nb∧0≤z.2∧z.2≤10000*(z.1:Int),μ:=fun z=>T.nb - z.1,nr:=1,ms:=fun _ _=>[],t:=fun z=>mkF 70 [(1,twL n w),(2,.ptr 0 0 0),(5,b6 z.2),(21,bxL T),(22,b6 T.nb),(23,b6 z.1)],X:=fun _=>mkX [vr 7 (tV T)],rd:=fun _ _ k=>∃ z,k z,rdOK:=fun _ _ _ h=>h } }
noncomputable def mlG (T:Tn) (n:Nat) (w:Nat→Bool):Prop:=funH Try.prog (ctrsF [mrgC 26] (ctrs [grC,alvC,trC,mrgC 25])) noX (ictrs []) (oneL 0 (mlH T n w)) noL 5 [tV T,twL n w] (.bool true)
end Go.Proofs.Ytpdcajchppoocaa

set_option maxRecDepth 100000
namespace Go.Proofs.Ytpdcajchppoocaa
open Go Go.Lg
theorem cnG_vc (T:Tn) (w:Nat→Bool):cnG T w=((0:Nat)<(1:Nat)∧(∀ (i:Nat),i<T.1→True∧True∧True∧True)∧(∀ (i:Nat),i<T.10→True∧True∧True)∧∃ T_1,(tV T=tV T_1∧T_1.10≤(1000:Nat))∧(0:Nat)<(1:Nat)∧(∀ (i:Nat),i<T.1→True∧True∧True∧True)∧(∀ (i:Nat),i<T.10→True∧True∧True)∧(∀ (i:Nat),i<T.10→True)∧(∀ (i:Nat),i<T_1.10→True)∧∃ T_2 w_1 c,(tV T=tV T_2∧(twL T.nl w)=twL T_2.nl w_1∧((SV.lst (1:Nat) T_1.nl fun j=>b6 (T_1.hi j))=SV.lst (1:Nat) T_2.nl fun j=>b6 (c j))∧okC T_2 c∧∀ (i :
Nat),i<T_2.10→¬wrQ T_2 w_1 c i)∧(∃ (z:Nat),cnI T w z∧T_2.10=T.10∧(∀ (i:Nat),i<T.10→(b6 (slQ T_2 w_1 c i)).den=(b6 (slQ T w T.hi i)).den∧True)∧(rE true↔cnQ T w z)∧(0:Int)=(↑z:Int)∧True)∧∀ (z:Nat),cnI T w z→((↑z:Int)<(↑T.10:Int)→(cnQ T w z→(0:Int)≤(↑z:Int)∧(↑z:Int)<(↑T.10:Int)∧rI ((↑z:Int)+(1:Int))∧∃ (z_1:Nat),cnI T w z_1∧T.10 - z_1<T.10 - z∧rE T.10∧(∀ (i:Nat),i<T.10→rE ((b6 (slQ T w T.hi i)).den)∧True)∧(slQ T w T.hi (↑z:Int).toNat=(0:Int)↔cnQ T w z_1)∧(↑z:Int)+(1:Int) =
(↑z_1:Int)∧True)∧(¬cnQ T w z→rI ((↑z:Int)+(1:Int))∧∃ (z_1:Nat),cnI T w z_1∧T.10 - z_1<T.10 - z∧rE T.10∧(∀ (i:Nat),i<T.10→rE ((b6 (slQ T w T.hi i)).den)∧True)∧(false=true↔cnQ T w z_1)∧(↑z:Int)+(1:Int)=(↑z_1:Int)∧True))∧(¬(↑z:Int)<(↑T.10:Int)→(cnQ T w z↔clP T w (0:Int))∧True)):=by kernel_rfl
theorem rmG_vc (T:Tn) (w:Nat→Bool):rmG T w=((0:Nat)<(1:Nat)∧(∀ (i:Nat),i<T.1→True∧True∧True∧True)∧(∀ (i:Nat),i<T.10→True∧True∧True)∧(∀ (i:Nat),i<T.10→True)∧∃ T_1 w_1,(tV T=tV T_1∧(twL T.nl w)=twL T_1.nl w_1∧okR T_1 w_1)∧(¬(0:Int)=(0:Int)→(0:Int)=mrN T T.10 w∧(0:Int)=mrE T T.10 w∧True)∧(¬¬(0:Int)=(0:Int)→(0:Nat)<(1:Nat)∧(∀ (i:Nat),i<T.1→True∧True∧True∧True)∧(∀ (i:Nat),i<T.10→True∧True∧True)∧(∀ (i:Nat),i<T.10→True)∧∃ T_2 w_2,(tV T=tV T_2∧(twL T.nl w)
= twL T_2.nl w_2∧okR T_2 w_2)∧(¬clP T_2 w_2 (0:Int)→(0:Int)=mrN T T.10 w∧(12:Int)=mrE T T.10 w∧True)∧(¬¬clP T_2 w_2 (0:Int)→(∃ (z:Nat),rmI T w z∧rE T.10∧(∀ (i:Nat),i<T.10→rE ((SV.dec (w i=true) inferInstance).den)∧True)∧rE (0:Nat)∧rE (0:Nat)∧(0:Int)=(↑z:Int)∧T.1=T.1∧(∀ (i:Nat),i<T.1→rE ((bxV T i).den)∧True∧True∧True∧True)∧T.5=T.5∧T.6=T.6∧T.7=T.7∧T.8=T.8∧T.9=T.9∧rE T.10∧(∀ (i:Nat),i<T.10→rE ((ldV T i).den)∧True∧True∧True)∧True)∧∀ (z:Nat),rmI T w z→((↑z:Int)<(10000
: Int)→(0:Nat)<(1:Nat)∧rI ((↑z:Int)+(1:Int))∧(∀ (i:Nat),i<T.1→True∧True∧True∧True)∧(∀ (i:Nat),i<T.10→True∧True∧True)∧∃ T_3,(tV T=tV T_3∧okT T_3∧(0:Int)≤(↑z:Int)+(1:Int)∧(↑z:Int)+(1:Int)≤(10001:Int))∧(∀ (i:Nat),i<T_3.1→True∧True∧True∧True)∧(∀ (i:Nat),i<T_3.10→True∧True∧True)∧(∀ (i:Nat),i<T.10→True)∧∃ T_4 w_3,(tV (moT T_3 ((↑z:Int)+(1:Int)))=tV T_4∧(twL T.nl w)=twL T_4.nl w_3∧okR T_4 w_3)∧(clP T_4 w_3 (0:Int)→rI ((↑z:Int)+(1:Int))∧∃ (z_1:Nat),rmI T w
z_1∧(10000:Nat) - z_1<(10000:Nat) - z∧rE T.10∧(∀ (i:Nat),i<T.10→rE ((SV.dec (w i=true) inferInstance).den)∧True)∧rE (0:Nat)∧rE (0:Nat)∧(↑z:Int)+(1:Int)=(↑z_1:Int)∧T.1=T.1∧(∀ (i:Nat),i<T.1→rE ((bxV T i).den)∧True∧True∧True∧True)∧T.5=T.5∧T.6=T.6∧T.7=T.7∧T.8=T.8∧T.9=T.9∧rE T.10∧(∀ (i:Nat),i<T.10→rE ((ldV T i).den)∧True∧True∧True)∧True)∧(¬clP T_4 w_3 (0:Int)→(↑z:Int)=mrN T T.10 w∧(0:Int)=mrE T T.10 w∧True))∧(¬(↑z:Int)<(10000:Int)→(↑z:Int)=mrN T T.10 w∧(0:Int)
= mrE T T.10 w∧True)))):=by kernel_rfl
theorem rmB_vc (T:Tn) (n:Nat) (w:Nat→Bool):rmB T n w=((0:Nat)<(1:Nat)∧(∀ (i:Nat),i<T.1→True∧True∧True∧True)∧(∀ (i:Nat),i<T.10→True∧True∧True)∧(∀ (i:Nat),i<n→True)∧∃ T_1 w_1,(tV T=tV T_1∧(twL n w)=twL n w_1∧(chE T_1 n w_1=(0:Int)→False))∧(¬chE T_1 n w_1=(0:Int)→(0:Int)=mrN T n w∧chE T_1 n w_1=mrE T n w∧True)∧(¬¬chE T_1 n w_1=(0:Int)→(0:Nat)<(1:Nat)∧False)):=by kernel_rfl
end Go.Proofs.Ytpdcajchppoocaa

set_option maxRecDepth 100000
namespace Go.Proofs.Ytpdcajchppoocaa
open Go Go.Lg
def mlG0 (T:Tn):Prop:=(∀ (i:Nat),i<T.1→rE ((bxV T i).den)∧True∧True∧True∧True)
theorem mlG_vc (T:Tn) (n:Nat) (w:Nat→Bool):mlG T n w=((0:Nat)<(1:Nat)∧(∀ (i:Nat),i<T.1→True∧True∧True∧True)∧(∀ (i:Nat),i<T.10→True∧True∧True)∧∃ T_1,tV T=tV T_1∧((16:Int)<(↑T_1.nl:Int)∧T_1.nl≤(16:Nat)∨(24:Nat)<T_1.nl∨(9:Nat)<T_1.nb→rE true∧True)∧(¬((16:Int)<(↑T_1.nl:Int)∧T_1.nl≤(16:Nat)∨(24:Nat)<T_1.nl∨(9:Nat)<T_1.nb)→((30:Int)<(↑n:Int)→rE true∧True)∧(¬(30:Int)<(↑n:Int)→(0:Nat)<(1:Nat)∧(∃ (zp9_0:Nat × Int),(zp9_0.1≤T.1∧(0:Int)≤zp9_0.2∧zp9_0.2≤(10000:Int)*(↑zp9_0.1:Int))∧n=n∧(∀ (i:Nat),i<n→rE ((SV.dec (w i=true) inferInstance).den)∧True)∧rE (0:Nat)∧rE (0:Nat)∧(0:Int)=zp9_0.2∧T.1=T.1∧(mlG0 T)∧rE (↑T.1:Int)∧(0:Int)=(↑zp9_0.1:Int)∧T.1=T.1∧(mlG0 T)∧T.5=T.5∧T.6=T.6∧T.7=T.7∧T.8=T.8∧T.9=T.9∧rE T.10∧(∀ (i:Nat),i<T.10→rE
((ldV T i).den)∧True∧True∧True)∧True)∧∀ (zp9_0:Nat × Int),zp9_0.1≤T.1∧(0:Int)≤zp9_0.2∧zp9_0.2≤(10000:Int)*(↑zp9_0.1:Int)→((↑zp9_0.1:Int)<(↑T.1:Int)→(0:Int)≤(↑zp9_0.1:Int)∧(↑zp9_0.1:Int)<(↑T.1:Int)∧(0:Nat)<(1:Nat)∧((0:Int)<T.2 (↑zp9_0.fst:Int).toNat→(0:Nat)<(1:Nat)∧(T.2 (↑zp9_0.fst:Int).toNat≤(10000:Int)→(0:Nat)<(1:Nat)∧rI (zp9_0.2+T.2 (↑zp9_0.fst:Int).toNat)∧rI ((↑zp9_0.1:Int)+(1:Int))∧∃ (zp9_1:Nat × Int),(zp9_1.1≤T.1∧(0:Int)≤zp9_1.2∧zp9_1.2≤(10000:Int)*(↑zp9_1.1:Int))∧T.1 - zp9_1.1<T.1 - zp9_0.1∧n=n∧(∀ (i:Nat),i<n→rE ((SV.dec (w i=true) inferInstance).den)∧True)∧rE (0:Nat)∧rE (0:Nat)∧zp9_0.2+T.2 (↑zp9_0.fst:Int).toNat=zp9_1.2∧T.1=T.1∧(mlG0 T)∧rE (↑T.1:Int)∧(↑zp9_0.1:Int)+(1:Int)=(↑zp9_1.1:Int) ∧
T.1=T.1∧(mlG0 T)∧T.5=T.5∧T.6=T.6∧T.7=T.7∧T.8=T.8∧T.9=T.9∧rE T.10∧(∀ (i:Nat),i<T.10→rE ((ldV T i).den)∧True∧True∧True)∧True)∧(¬T.2 (↑zp9_0.fst:Int).toNat≤(10000:Int)→rI ((↑zp9_0.1:Int)+(1:Int))∧∃ (zp9_1:Nat × Int),(zp9_1.1≤T.1∧(0:Int)≤zp9_1.2∧zp9_1.2≤(10000:Int)*(↑zp9_1.1:Int))∧T.1 - zp9_1.1<T.1 - zp9_0.1∧n=n∧(∀ (i:Nat),i<n→rE ((SV.dec (w i=true) inferInstance).den)∧True)∧rE (0:Nat)∧rE (0:Nat)∧zp9_0.2=zp9_1.2∧T.1=T.1∧(mlG0 T)∧rE (↑T.1:Int)∧(↑zp9_0.1:Int)+(1:Int)=(↑zp9_1.1:Int)∧T.1=T.1∧(mlG0 T)∧T.5=T.5∧T.6=T.6∧T.7=T.7∧T.8=T.8∧T.9=T.9∧rE T.10∧(∀ (i:Nat),i<T.10→rE ((ldV T i).den)∧True∧True∧True)∧True))∧(¬(0:Int)<T.2 (↑zp9_0.fst:Int).toNat→rI ((↑zp9_0.1:Int)+(1:Int))∧∃ (zp9_1:Nat × Int),
(zp9_1.1≤T.1∧(0:Int)≤zp9_1.2∧zp9_1.2≤(10000:Int)*(↑zp9_1.1:Int))∧T.1 - zp9_1.1<T.1 - zp9_0.1∧n=n∧(∀ (i:Nat),i<n→rE ((SV.dec (w i=true) inferInstance).den)∧True)∧rE (0:Nat)∧rE (0:Nat)∧zp9_0.2=zp9_1.2∧T.1=T.1∧(mlG0 T)∧rE (↑T.1:Int)∧(↑zp9_0.1:Int)+(1:Int)=(↑zp9_1.1:Int)∧T.1=T.1∧(mlG0 T)∧T.5=T.5∧T.6=T.6∧T.7=T.7∧T.8=T.8∧T.9=T.9∧rE T.10∧(∀ (i:Nat),i<T.10→rE ((ldV T i).den)∧True∧True∧True)∧True))∧(¬(↑zp9_0.1:Int)<(↑T.1:Int)→((400:Int)<zp9_0.2→(0:Nat)<(1:Nat)∧(∀ (i:Nat),i<T.1→True∧True∧True∧True)∧(∀ (i:Nat),i<T.10→True∧True∧True)∧∃ T_2,tV T=tV T_2∧(okT T_2→rE true∧True)∧(¬okT T_2→(0:Nat)<(1:Nat)∧(∀ (i:Nat),i<T.1→True∧True∧True∧True)∧(∀ (i:Nat),i<T.10→True∧True∧True)∧(∀ (i:Nat),
i<n→True)∧∃ T_3 w_1,(tV T=tV T_3∧(twL n w)=twL n w_1)∧(0:Nat)<(1:Nat)∧(∀ (i:Nat),i<T.1→True∧True∧True∧True)∧(∀ (i:Nat),i<T.10→True∧True∧True)∧(∀ (i:Nat),i<n→True)∧∃ T_4 w_2,(tV T=tV T_4∧(twL n w)=twL n w_2)∧(mrN T_3 n w_1=mrN T_4 n w_2→(mrE T_3 n w_1=mrE T_4 n w_2→rE true∧True)∧(¬mrE T_3 n w_1=mrE T_4 n w_2→false=true∧True))∧(¬mrN T_3 n w_1=mrN T_4 n w_2→false=true∧True)))∧(¬(400:Int)<zp9_0.2→(0:Nat)<(1:Nat)∧(∀ (i:Nat),i<T.1→True∧True∧True∧True)∧(∀ (i:Nat),i<T.10→True∧True∧True)∧(∀ (i:Nat),i<n→True)∧∃ T_2 w_1,(tV T=tV T_2∧(twL n w)=twL n w_1)∧(0:Nat)<(1:Nat)∧(∀ (i:Nat),i<T.1→True∧True∧True∧True)∧(∀ (i:Nat),i<T.10→True∧True∧True)∧(∀ (i:Nat),i<n→True)∧∃ T_3 w_2,(tV T=tV T_3∧(twL n
w)=twL n w_2)∧(mrN T_2 n w_1=mrN T_3 n w_2→(mrE T_2 n w_1=mrE T_3 n w_2→rE true∧True)∧(¬mrE T_2 n w_1=mrE T_3 n w_2→false=true∧True))∧(¬mrN T_2 n w_1=mrN T_3 n w_2→false=true∧True)))))):=by kernel_rfl
end Go.Proofs.Ytpdcajchppoocaa

set_option maxRecDepth 100000
namespace Go.Proofs.Ytpdcajchppoocaa
open Go Go.Lg
attribute [local irreducible] bodyH
theorem cn_cl {T:Tn} {w:Nat→Bool} (h:okR T w):cnQ T w T.nl↔clP T w 0:=by
 have hl:=h.t.nl
 constructor
 ·intro hq
  exact ⟨fun k hk hp=>by
   rw [h.w] at hk
   have:=hq k hk
   rw [rg_hi2 h.t h.w hk] at this
   have e:hiA T w k=slA T (tW w) (coH T 0) k:=rfl
   omega⟩
 ·intro hc j hj
  have h1:=hc.a j (by rw [h.w]; exact hj)
  rw [rg_hi2 h.t h.w hj]
  have e:hiA T w j=slA T (tW w) (coH T 0) j:=rfl
  have h0:=(sl_in h.t (w:=tW w) (c:=coH T 0) (m:=j) (by omega) (fun k hk=>by
   have:=h.t.ld k (by omega)
   show 0≤min (T.hi k+0) 10000
   omega) (fun k hk=>fw_a (by rw [h.w]; omega))).1
  omega
theorem cn_true {T:Tn} {w:Nat→Bool} (h:okR T w):cnG T w:=by
 rw [cnG_vc]
 simp only [rI,rE,tt3,tt4,tt5,tt13,tt14,rI,rE,tt3,tt4,tt5,tt13,tt14,and_true,true_and,Nat.zero_lt_one,and_self,implies_true,Int.toNat_natCast,Nat.zero_add,Nat.add_zero,Nat.one_mul,Nat.mul_one,Classical.not_not,iff_self,Bool.false_eq_true,imp_false,and_imp,true_implies,forall_const]
 have hl:=h.t.nl
 refine ⟨T,⟨rfl,by omega⟩,T,w,T.hi,⟨rfl,rfl,rfl,rg_hi h.t,fun i hi=>rg_no (rg_hi h.t) (by rw [h.w]; exact hi)⟩,⟨0,⟨by omega⟩,rfl,fun i hi=>rfl,⟨fun _ j hj=>(Nat.not_lt_zero j hj).elim,fun _=>trivial⟩,rfl⟩,fun z hz=>⟨fun hlt=>⟨fun hq=>⟨by omega,hlt,by omega,z+1,⟨by omega⟩,by omega,⟨fun e j hj=>?_,fun e=>e z (Nat.lt_succ_self z)⟩,by omega⟩,fun hq=>⟨by omega,z+1,⟨by omega⟩,by omega,⟨fun e=>e.elim,fun e=>hq fun j hj=>e j (by omega)⟩,by omega⟩⟩,fun hlt=>?_⟩⟩
 ·by_cases e2:j<z
  ·exact hq j e2
  ·obtain rfl:j=z:=by omega
   exact e
 ·have:=hz.a
  obtain rfl:z=T.nl:=by omega
  exact cn_cl h
theorem cn_ok:cnC.OkF Try.prog:=by
 refine ⟨by kernel_rfl,fun args k hk=>?_⟩
 simp only [cnC] at hk
 split at hk
 ·obtain ⟨T,w,⟨rfl,hw,h⟩,hk⟩:=hk
  rw [hw]
  have hcs:SoundS Try.prog (ctrsF [rnC,coE] (ctrs [])):=ctrsF_sound nil_cs (by
   intro x hx
   simp only [List.mem_cons,List.not_mem_nil,or_false] at hx
   rcases hx with rfl | rfl
   ·exact rn_ok
   ·exact coE_ok)
  exact ⟨_,funY_does hcs nil_x nil_ic nil_o mixed (cn_true h),hk⟩
 ·exact hk.elim
theorem mo_clP {T:Tn} {w:Nat→Bool} (h:okR T w) {z:Int} (hz:0≤z):clP (moT T z) w 0↔clP T w z:=by
 have h1:=(mo_ok1 h hz).w
 have h2:=h.w
 have e:(moT T z).nl=T.nl:=rfl
 constructor
 ·intro hc
  exact ⟨fun k hk=>by
   have:=hc.a k (by rw [h1,e,← h2]; exact hk)
   rw [← mo_hi (T:=T) (w:=w) k]; exact this⟩
 ·intro hc
  exact ⟨fun k hk=>by
   have:=hc.a k (by rw [h2,← e,← h1]; exact hk)
   rw [← mo_hi (T:=T) (w:=w) k] at this; exact this⟩
theorem mr_none {T:Tn} {w:Nat→Bool} (h:okR T w) (hc:¬ clP T w 0):mrN T T.nl w=0∧mrE T T.nl w=12:=by
 have h0:chE T T.nl w=0:=(ch_good h.t rfl (by rw [h.w]; exact Nat.lt_irrefl _)).2
 unfold mrN mrE
 rw [if_pos h0,if_neg hc,if_pos h0,if_neg hc]; exact ⟨rfl,rfl⟩
theorem mr_some {T:Tn} {w:Nat→Bool} (h:okR T w) (hc:clP T w 0) {m:Nat} (hm:mgN T w=m):(m:Int)=mrN T T.nl w∧0=mrE T T.nl w:=by
 have h0:chE T T.nl w=0:=(ch_good h.t rfl (by rw [h.w]; exact Nat.lt_irrefl _)).2
 unfold mrN mrE
 rw [if_pos h0,if_pos hc,if_pos h0,if_pos hc,hm]; exact ⟨rfl,rfl⟩
theorem rm_true {T:Tn} {w:Nat→Bool} (h:okR T w):rmG T w:=by
 rw [rmG_vc]
 simp only [rI,rE,tt3,tt4,tt5,tt13,tt14,rI,rE,tt3,tt4,tt5,tt13,tt14,and_true,true_and,Nat.zero_lt_one,and_self,implies_true,Int.toNat_natCast,Nat.zero_add,Nat.add_zero,Nat.one_mul,Nat.mul_one,Classical.not_not,iff_self,Bool.false_eq_true,imp_false,and_imp,true_implies,forall_const]
 refine ⟨T,w,⟨rfl,rfl,h⟩,fun hn=>(hn trivial).elim,T,w,⟨rfl,rfl,h⟩,fun hc=>?_,fun hc=>⟨⟨0,⟨by omega,fun p hp=>(Nat.not_lt_zero p hp).elim⟩,rfl⟩,fun z hz=>⟨fun hlt=>⟨by omega,T,⟨rfl,h.t,by omega,by omega⟩,moT T (z+1),w,⟨rfl,rfl,mo_ok1 h (by omega)⟩,fun hq=>⟨by omega,z+1,⟨by omega,fun p hp=>?_⟩,by omega,by omega⟩,fun hq=>?_⟩,fun hlt=>?_⟩⟩⟩
 ·obtain ⟨a,b⟩:=mr_none h hc
  exact ⟨a.symm,b.symm⟩
 ·by_cases e:p<z
  ·exact hz.lo p e
  ·obtain rfl:p=z:=by omega
   exact (mo_clP h (by omega)).1 hq
 ·exact mr_some h hc (mg_is (by omega) hz.lo fun _ e=>hq ((mo_clP h (by omega)).2 e))
 ·have:=hz.n
  obtain rfl:z=10000:=by omega
  exact mr_some h hc (mg_is (by omega) hz.lo fun e=>(Nat.lt_irrefl _ e).elim)
theorem rmB_true {T:Tn} {n:Nat} {w:Nat→Bool} (h:chE T n w≠0):rmB T n w:=by
 rw [rmB_vc]
 simp only [rI,rE,tt3,tt4,tt5,tt13,tt14,rI,rE,tt3,tt4,tt5,tt13,tt14,and_true,true_and,implies_true]
 refine ⟨by omega,T,w,⟨rfl,rfl,h⟩,fun _=>⟨?_,?_⟩,fun hn=>(hn h).elim⟩
 ·unfold mrN; rw [if_neg h]
 ·unfold mrE; rw [if_neg h]
theorem rm_ok:(mrgC 26).OkF Try.prog:=by
 refine ⟨by kernel_rfl,fun args k hk=>?_⟩
 simp only [mrgC] at hk
 split at hk
 ·obtain ⟨T,w,⟨rfl,hw⟩,hk⟩:=hk
  rw [hw]
  rename_i n f
  by_cases h:chE T n w=0
  ·obtain ⟨hl,hR⟩:n=T.nl∧okR T w:=by
    have hT:okT T:=Classical.byContradiction fun hn=>by have:=(ch_bad (n:=n) (w:=w) hn).2; omega
    have hl:n=T.nl:=Classical.byContradiction fun hn=>by have:=(ch_len (w:=w) hT hn).2; omega
    have hf:¬ fwA T w<n:=fun hn=>by have:=(ch_fw hT hl hn).2; omega
    have hd:=fw_d (T:=T) (w:=w)
    exact ⟨hl,hT,by omega⟩
   subst hl
   have hcs:SoundS Try.prog (ctrsF [rrC,cnC,moC] (ctrs [])):=ctrsF_sound nil_cs (by
    intro x hx
    simp only [List.mem_cons,List.not_mem_nil,or_false] at hx
    rcases hx with rfl | rfl | rfl
    ·exact rrC_ok
    ·exact cn_ok
    ·exact mo_ok)
   exact ⟨_,funY_does hcs nil_x nil_ic nil_o mixed (rm_true hR),hk⟩
  ·have hcs:SoundS Try.prog (ctrsF [rrD] (ctrs [])):=ctrsF_sound nil_cs (by intro x hx; simp at hx; subst hx; exact rrD_ok)
   exact ⟨_,funY_does hcs nil_x nil_ic nil_o mixed (rmB_true h),hk⟩
 ·exact hk.elim
theorem ml_true (T:Tn) (n:Nat) (w:Nat→Bool):mlG T n w:=by
 rw [mlG_vc]
 simp only [mlG0,rI,rE,tt3,tt4,tt5,tt13,tt14,rI,rE,tt3,tt4,tt5,tt13,tt14,and_true,true_and,Nat.zero_lt_one,and_self,implies_true,Int.toNat_natCast,Nat.zero_add,Nat.add_zero,Nat.one_mul,Nat.mul_one,Classical.not_not,iff_self,Bool.false_eq_true,imp_false,and_imp,true_implies,forall_const]
 refine ⟨T,rfl,fun hg _=>⟨⟨(0,0),⟨Nat.zero_le _,Int.le_refl _,Int.le_refl _⟩,rfl,rfl⟩,fun z h1 h2 h3=>⟨fun hlt=>?_,fun _=>⟨fun _=>⟨T,rfl,fun _=>⟨T,w,⟨rfl,rfl⟩,T,w,⟨rfl,rfl⟩,fun _=>rfl,rfl⟩⟩,fun _=>⟨T,w,⟨rfl,rfl⟩,T,w,⟨rfl,rfl⟩,fun _=>rfl,rfl⟩⟩⟩⟩⟩
 obtain ⟨i,S⟩:=z
 have h1:i≤T.nb:=h1
 have h2:0≤S:=h2
 have h3:S≤10000*(i:Int):=h3
 have hlt:(i:Int)<T.nb:=hlt
 have hnb:T.nb≤9:=by omega
 refine ⟨by omega,hlt,fun hp=>⟨fun hq=>⟨by show _≤S+T.rm i∧S+T.rm i≤_; have hp:0<T.rm i:=hp; have hq:T.rm i≤10000:=hq; omega,by show _≤(i:Int)+1∧(i:Int)+1≤_; omega,(i+1,S+T.rm i),⟨by show i+1≤_; omega,?_⟩,by show T.nb - (i+1)<T.nb - i; omega,rfl,rfl⟩,fun hq=>⟨by show _≤(i:Int)+1∧(i:Int)+1≤_; omega,(i+1,S),⟨by show i+1≤_; omega,?_⟩,by show T.nb - (i+1)<T.nb - i; omega,rfl,rfl⟩⟩,fun hp=>⟨by show _≤(i:Int)+1∧(i:Int)+1≤_; omega,(i+1,S),⟨by show i+1≤_; omega,?_⟩,by show T.nb - (i+1)<T.nb - i; omega,rfl,rfl⟩⟩
 ·have hp:0<T.rm i:=hp
  have hq:T.rm i≤10000:=hq
  show 0≤S+T.rm i∧S+T.rm i≤10000*((i+1:Nat):Int)
  omega
 ·show 0≤S∧S≤10000*((i+1:Nat):Int)
  omega
 ·show 0≤S∧S≤10000*((i+1:Nat):Int)
  omega
end Go.Proofs.Ytpdcajchppoocaa
