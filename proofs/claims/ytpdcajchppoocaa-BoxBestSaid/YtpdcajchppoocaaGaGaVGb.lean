import Derived.Test.YtpdcajchppoocaaEmVEn
import Derived.Test.YtpdcajchppoocaaPfPgPhPiPjPkPnPxPu
set_option linter.unusedVariables false
set_option linter.unusedSimpArgs false
set_option maxRecDepth 100000
namespace Go.Proofs.Ytpdcajchppoocaa
open Go Go.Lg
attribute [local irreducible] bodyH
structure clP (T:Tn) (w:Nat→Bool) (z:Int):Prop where
 a:∀ k,k<fwA T w→¬ 0<slA T (tW w) (coH T z) k
structure clI (T:Tn) (w:Nat→Bool) (z:Int) (i:Nat):Prop where
 a:i≤fwA T w
 b:∀ k,k<i→¬ 0<slA T (tW w) (coH T z) k
noncomputable def clnG (T:Tn) (w:Nat→Bool) (z:Int):Prop:=funH Try.prog (ctrsF [folC] (ctrs [])) noX (ictrs []) (oneL 0 (natH (clI T w z) (fun i=>fwA T w - i) 0
 (fun i=>mkF 21 [(12,slpL T w (coH T z)),(13,b6 (fwA T w)),(14,b6 i)]) (fun _=>⟨0,.nil⟩) fun _=>none)) noL 47 [crV T w (clH z)] (.dec (clP T w z) (Classical.propDecidable _))
noncomputable def clnC:Ctr:=⟨47,fun args k=>match args with
 | [x]=>(match lastS x with
  | .clo (.func 61) [] [.ipt [.int .i64 z]]=>∃ (T:Tn) (w:Nat→Bool),(x=crV T w (clH z)∧okT T∧0≤z∧z≤10001)∧k (.dec (clP T w z) (Classical.propDecidable _))
  | _=>False)
 | _=>False⟩
def tC (T:Tn):List SV:=[bxL T,b6 T.we,b6 T.rv,b6 T.re,b6 T.wo,b6 T.ti,.lst 2 T.nl (ldV T)]
noncomputable def prdG (T:Tn) (w:Nat→Bool) (k:Int):Prop:=funH Try.prog (ctrsF [rsdC] (ctrs [clnC])) noX (ictrs []) noL noL 49 [b6 k,.ipt (tC T),.ipt [twL T.nl w]] (.dec (¬ clP T w (k+1)) (Classical.propDecidable _))
noncomputable def prV (T:Tn) (w:Nat→Bool):SV:=.clo (.func 49) [] [.ipt (tC T),.ipt [twL T.nl w]]
noncomputable def prdC:Ctr:=⟨49,fun args k=>match args with
 | [.int .i64 n,.ipt c,.ipt d]=>∃ (T:Tn) (w:Nat→Bool),(c=tC T∧d=[twL T.nl w]∧okT T∧0≤n∧n≤10000)∧k (.dec (¬ clP T w (n+1)) (Classical.propDecidable _))
 | _=>False⟩
noncomputable def mgN (T:Tn) (w:Nat→Bool):Nat:=fwR (fun k=>¬ clP T w ((k:Int)+1)) 10000 0
structure seI (T:Tn) (w:Nat→Bool) (z:Nat × Nat):Prop where
 le:z.1≤z.2
 n:z.2≤10000
 lo:∀ p:Nat,p<z.1→clP T w ((p:Int)+1)
 hi:∀ p:Nat,z.2≤p→p<10000→¬ clP T w ((p:Int)+1)
noncomputable def seH (T:Tn) (w:Nat→Bool):HSpec :=
 { toLSpec:={ σ:=Nat × Nat,inv:=seI T w,μ:=fun z=>z.2 - z.1,nr:=0,ms:=fun _ _=>[],t:=fun z=>mkF 26 [(1,prV T w),(5,b6 z.1),(6,b6 z.2)],X:=fun _=>mkX [],rd:=fun _ _ k=>∃ z,k z,rdOK:=fun _ _ _ h=>h } }
noncomputable def schG (T:Tn) (w:Nat→Bool):Prop:=funH Try.prog (ctrs [prdC]) noX (ictrs []) (oneL 0 (seH T w)) noL 48 [b6 10000,prV T w] (b6 (mgN T w))
noncomputable def schC:Ctr:=⟨48,fun args k=>match args with
 | [.int .i64 n,.clo (.func 49) [] [.ipt c,.ipt d]]=>∃ (T:Tn) (w:Nat→Bool),(n=10000∧c=tC T∧d=[twL T.nl w]∧okT T)∧k (b6 (mgN T w))
 | _=>False⟩
open Classical in
noncomputable def mrN (T:Tn) (n:Nat) (w:Nat→Bool):Int:=if chE T n w=0 then (if clP T w 0 then mgN T w else 0) else 0
open Classical in
noncomputable def mrE (T:Tn) (n:Nat) (w:Nat→Bool):Int:=if chE T n w=0 then (if clP T w 0 then 0 else 12) else chE T n w
noncomputable def mrgG (T:Tn) (n:Nat) (w:Nat→Bool):Prop:=funH Try.prog (ctrsF [rsdC] (ctrs [chkC,clnC,schC])) noX (ictrs []) noL noL 25 [tV T,twL n w] (.tup [b6 (mrN T n w),b6 (mrE T n w)])
noncomputable def mrgC (f:FuncId):Ctr:=⟨f,fun args k=>match args with
 | [x,.lst 1 n f]=>∃ (T:Tn) (w:Nat→Bool),(x=tV T∧SV.lst 1 n f=twL n w)∧k (.tup [b6 (mrN T n w),b6 (mrE T n w)])
 | _=>False⟩
structure moJ (T:Tn) (i:Nat):Prop where
 a:i<T.nl
end Go.Proofs.Ytpdcajchppoocaa

set_option maxRecDepth 100000
namespace Go.Proofs.Ytpdcajchppoocaa
open Go Go.Lg
local notation "Z0"=>(0:Int)
local notation "N0"=>(0:Nat)
local notation "Z1"=>(1:Int)
local notation "N1"=>(1:Nat)
local notation "Z10000"=>(10000:Int)
theorem clnG_vc (T:Tn) (w:Nat→Bool) (z:Int):clnG T w z=(N0<N1∧(∀ (i:Nat),i<T.1→True∧True∧True∧True)∧(∀ (i:Nat),i<T.10→True∧True∧True)∧(∀ (i:Nat),i<T.10→True)∧∃ T_1 w_1,(crV T w (clH z)=crV T_1 w_1 (clH z)∧okT T_1∧Z0≤z∧z≤(10001:Int))∧(∃ (z_1:Nat),clI T w z z_1∧fwA T_1 w_1=fwA T w∧(∀ (i:Nat),i<fwA T w→(b6 (slA T_1 (tW w_1) (coH T_1 z) i)).den=(b6 (slA T (tW w) (coH T z) i)).den∧True)∧(↑(fwA T_1 w_1):Int)=(↑(fwA T w):Int)∧Z0=(↑z_1:Int)∧True)∧∀ (z_1:Nat),clI T
w z z_1→((↑z_1:Int)<(↑(fwA T w):Int)→Z0≤(↑z_1:Int)∧(↑z_1:Int)<(↑(fwA T w):Int)∧(Z0<slA T (tW w) (coH T z) (↑z_1:Int).toNat→(false=true↔clP T w z)∧True)∧(¬Z0<slA T (tW w) (coH T z) (↑z_1:Int).toNat→rI ((↑z_1:Int)+Z1)∧∃ (z_2:Nat),clI T w z z_2∧fwA T w - z_2<fwA T w - z_1∧rE (fwA T w)∧(∀ (i:Nat),i<fwA T w→rE ((b6 (slA T (tW w) (coH T z) i)).den)∧True)∧rE (↑(fwA T w):Int)∧(↑z_1:Int)+Z1=(↑z_2:Int)∧True))∧(¬(↑z_1:Int)<(↑(fwA T w):Int)→(rE true↔clP T w z)∧True)) :=
by kernel_rfl
theorem prdG_vc (T:Tn) (w:Nat→Bool) (k:Int):prdG T w k=(rI (k+Z1)∧(∀ (i:Nat),i<T.1→True∧True∧True∧True)∧(∀ (i:Nat),i<T.10→True∧True∧True)∧(∀ (i:Nat),i<T.10→True)∧∃ T_1 w_1,(tV T=tV T_1∧twL T.nl w=twL T_1.nl w_1)∧(∀ (i:Nat),i<T_1.1→True∧True∧True∧True)∧(∀ (i:Nat),i<T_1.10→True∧True∧True)∧(∀ (i:Nat),i<T_1.10→True)∧(True∧True)∧∃ T_2 w_2,(crV T_1 w_1 (clH (k+Z1))=crV T_2 w_2 (clH (k+Z1))∧okT T_2∧Z0≤k+Z1∧k+Z1≤(10001:Int))∧(¬clP
T_2 w_2 (k+Z1)↔¬clP T w (k+Z1))∧True):=by kernel_rfl def schG0 (T:Tn):Prop:=((∀ (i:Nat),i<T.1→True∧True∧True∧True)∧True∧True∧True∧True∧True∧(∀ (i:Nat),i<T.10→True∧True∧True)∧True)
theorem schG_vc (T:Tn) (w:Nat→Bool):schG T w=((∃ (z:Nat × Nat),seI T w z∧rE (Fn.func (49:FuncId))∧rE (SV.denL (tC T))∧(schG0 T)∧rE (SV.denL [twL T.nl w])∧((∀ (i:Nat),i<T.10→True)∧True)∧Z0=(↑z.1:Int)∧Z10000=(↑z.2:Int)∧True)∧∀ (z:Nat × Nat),seI T w z→((↑z.1:Int)<(↑z.2:Int)→rI ((↑z.1:Int)+(↑z.2:Int))∧((if IntKind.u64.signed=true then -Int.ofNat ((2:Nat) ^ (IntKind.u64.bits - N1)) else Z0)≤(↑z.1:Int)+(↑z.2:Int)∧(↑z.1:Int)+(↑z.2:Int)≤if IntKind.u64.signed=true then Int.ofNat
((2:Nat) ^ (IntKind.u64.bits - N1)) - Z1 else Int.ofNat ((2:Nat) ^ IntKind.u64.bits) - Z1)∧(Z0≤Z1∧Z1≤(↑(64:Nat):Int))∧rI (((↑z.1:Int)+(↑z.2:Int)).fdiv (shP Z1))∧(schG0 T)∧((∀ (i:Nat),i<T.10→True)∧True)∧∃ T_1 w_1,(tC T=tC T_1∧[twL T.nl w]=[twL T_1.nl w_1]∧okT T_1∧Z0≤((↑z.1:Int)+(↑z.2:Int)).fdiv (shP Z1)∧((↑z.1:Int)+(↑z.2:Int)).fdiv (shP Z1)≤Z10000)∧(¬¬clP T_1 w_1 (((↑z.fst:Int)+(↑z.snd:Int)).fdiv (shP Z1)+Z1)→rI (((↑z.1 :
Int)+(↑z.2:Int)).fdiv (shP Z1)+Z1)∧∃ (z_1:Nat × Nat),seI T w z_1∧z_1.2 - z_1.1<z.2 - z.1∧rE (Fn.func (49:FuncId))∧rE (SV.denL (tC T))∧(schG0 T)∧rE (SV.denL [twL T.nl w])∧((∀ (i:Nat),i<T.10→True)∧True)∧((↑z.1:Int)+(↑z.2:Int)).fdiv (shP Z1)+Z1=(↑z_1.1:Int)∧(↑z.2:Int)=(↑z_1.2:Int)∧True)∧(¬¬¬clP T_1 w_1 (((↑z.fst:Int)+(↑z.snd:Int)).fdiv (shP Z1)+Z1)→∃ (z_1:Nat × Nat),seI T w z_1∧z_1.2 - z_1.1<z.2 - z.1∧rE (Fn.func (49:FuncId))∧rE (SV.denL (tC T))∧(schG0 T)∧rE
(SV.denL [twL T.nl w])∧((∀ (i:Nat),i<T.10→True)∧True)∧(↑z.1:Int)=(↑z_1.1:Int)∧((↑z.1:Int)+(↑z.2:Int)).fdiv (shP Z1)=(↑z_1.2:Int)∧True))∧(¬(↑z.1:Int)<(↑z.2:Int)→(↑z.1:Int)=(↑(mgN T w):Int)∧True)):=by kernel_rfl
theorem mrgG_vc (T:Tn) (n:Nat) (w:Nat→Bool):mrgG T n w=(N0<N1∧N0<N1∧(∀ (i:Nat),i<T.1→True∧True∧True∧True)∧(∀ (i:Nat),i<T.10→True∧True∧True)∧(∀ (i:Nat),i<n→True)∧∃ T_1 w_1,(tV T=tV T_1∧twL n w=twL n w_1)∧(¬chE T_1 n w_1=Z0→Z0=mrN T n w∧chE T_1 n w_1=mrE T n w∧True)∧(¬¬chE T_1 n w_1=Z0→N0<N1∧N0<N1∧(∀ (i:Nat),i<T.1→True∧True∧True∧True)∧(∀ (i:Nat),i<T.10→True∧True∧True)∧(∀ (i:Nat),i<n→True)∧∃
T_2 w_2,(tV T=tV T_2∧twL n w=twL T_2.nl w_2)∧(∀ (i:Nat),i<T_2.1→True∧True∧True∧True)∧(∀ (i:Nat),i<T_2.10→True∧True∧True)∧(∀ (i:Nat),i<T_2.10→True)∧(True∧True)∧∃ T_3 w_3,(crV T_2 w_2 (clH Z0)=crV T_3 w_3 (clH Z0)∧okT T_3∧Z0≤Z0∧Z0≤(10001:Int))∧(¬clP T_3 w_3 Z0→Z0=mrN T n w∧(12:Int)=mrE T n w∧True)∧(¬¬clP T_3 w_3 Z0→N0<N1∧rE (7:Nat)∧(∀ (i:Nat),i<T.1→True∧True∧True∧True)∧True∧True∧True∧True∧True∧(∀ (i:Nat),i <
T.10→True∧True∧True)∧N0<N1∧rE N1∧(∀ (i:Nat),i<n→True)∧∃ T_4 w_4,(rE Z10000∧[bxL T,b6 T.we,b6 T.rv,b6 T.re,b6 T.wo,b6 T.ti,SV.lst (2:Nat) T.nl (ldV T)]=tC T_4∧[(SRow.v (Try.prog.cellsOf (26:Nat)) (twL n w)).f N0]=[twL T_4.nl w_4]∧okT T_4)∧(↑(mgN T_4 w_4):Int)=mrN T n w∧Z0=mrE T n w∧True))):=by kernel_rfl def moG3 (T:Tn):Prop:=(∀ (i:Nat),i<T.1→rE ((bxV T i).den)∧True∧True∧True∧True) def moG1 (T:Tn) (y:Int) (z:Nat):Prop:=(True∧True∧True∧True∧rI (T.12 (↑z :
Int).toNat+y)∧True∧True∧True∧True∧True∧True∧True∧True∧True∧(∀ (i:Nat),i<N1→rE true)∧rE N0∧z=z∧(∀ (i:Nat),rE true)∧(z+N1)*(16:Nat)≤(140737488355328:Nat)∧z+N1≤(4611686018427387904:Nat)∧True∧True∧True∧True∧∃ (z_1:Nat),(moJ T z_1∧z_1=(↑z:Int).toNat)∧y=y∧rE N0∧rE N0∧rE N0∧rE N0∧rE N0∧rE N0∧(↑z:Int)=(↑z_1:Int)∧T.1=T.1∧(moG3 T)∧T.5=T.5∧T.6=T.6∧T.7=T.7∧T.8=T.8∧T.9=T.9∧rE T.10∧(∀ (i:Nat),i<T.10 →
rE ((ldV T i).den)∧True∧True∧True)∧T.1=T.1∧(moG3 T)∧T.5=T.5∧T.6=T.6∧T.7=T.7∧T.8=T.8∧T.9=T.9∧rE N0∧z+N1=z_1+N1∧z_1+N1=z+N1∧(∀ (i_2:Nat),i_2<z_1+N1→rE (2:Nat)∧(if i_2<z then T.11 i_2 else T.11 (↑z:Int).toNat)=T.11 i_2∧(if i_2<z then min Z10000 (T.12 i_2+y) else min Z10000 (T.12 (↑z:Int).toNat+y))=min Z10000 (T.12 i_2+y)∧True)∧True) def moG2 (T:Tn) (y:Int) (z:Nat):Prop:=(True∧True∧True∧True∧True∧True∧True∧True∧True∧(∀
(i:Nat),i<N1→rE true)∧rE N0∧z=z∧(∀ (i:Nat),rE true)∧(z+N1)*(16:Nat)≤(140737488355328:Nat)∧z+N1≤(4611686018427387904:Nat)∧True∧True∧True∧True∧∃ (z_1:Nat),(moJ T z_1∧z_1=(↑z:Int).toNat)∧y=y∧rE N0∧rE N0∧rE N0∧rE N0∧rE N0∧rE N0∧(↑z:Int)=(↑z_1:Int)∧T.1=T.1∧(moG3 T)∧T.5=T.5∧T.6=T.6∧T.7=T.7∧T.8=T.8∧T.9=T.9∧rE T.10∧(∀ (i:Nat),i<T.10→rE ((ldV T i).den)∧True∧True∧True)∧T.1=T.1∧(moG3 T)∧T.5=T.5∧T.6 =
T.6∧T.7=T.7∧T.8=T.8∧T.9=T.9∧rE N0∧z+N1=z_1+N1∧z_1+N1=z+N1∧(∀ (i_2:Nat),i_2<z_1+N1→rE (2:Nat)∧(if i_2<z then T.11 i_2 else T.11 (↑z:Int).toNat)=T.11 i_2∧(if i_2<z then min Z10000 (T.12 i_2+y) else min Z10000 (T.12 (↑z:Int).toNat+y))=min Z10000 (T.12 i_2+y)∧True)∧True) def moG0 (T:Tn) (y:Int) (z:Nat):Prop:=(True∧True∧Z0≤(↑z:Int)∧(↑z:Int)<(↑T.10:Int)∧True∧True∧(True∧True∧(moG1 T y z)∧True)∧(True∧True∧True∧True ∧
rI (T.12 (↑z:Int).toNat+y)∧True∧True∧(moG2 T y z)∧True)∧True)
end Go.Proofs.Ytpdcajchppoocaa

set_option maxRecDepth 100000
namespace Go.Proofs.Ytpdcajchppoocaa
open Go Go.Lg
attribute [local irreducible] bodyH
theorem one_cs {x:Ctr} (h:x.Ok Try.prog):SoundS Try.prog (ctrs [x]):=ctrs_sound (by intro y hy; simp at hy; subst hy; exact h)
theorem fol_cs1:SoundS Try.prog (ctrsF [folC] (ctrs [])):=ctrsF_sound nil_cs (by intro x hx; simp at hx; subst hx; exact fol_ok)
theorem yesT {p:Prop} (h:p):(True↔p):=⟨fun _=>h,fun _=>trivial⟩
theorem noFF {p:Prop} (h:¬ p):(False↔p):=⟨fun e=>e.elim,fun e=>(h e).elim⟩
theorem cln_true {T:Tn} {w:Nat→Bool} {z:Int} (hT:okT T) (hz:0≤z∧z≤10001):clnG T w z:=by
 rw [clnG_vc]
 simp only [rI,rE,tt3,tt4,tt5,tt13,tt14,rI,rE,tt3,tt4,tt5,tt13,tt14,and_true,true_and,Nat.zero_lt_one,and_self,implies_true,Int.toNat_natCast,Classical.not_not,Bool.false_eq_true]
 have hd:=fw_d (T:=T) (w:=w)
 have hnl:=hT.nl
 refine ⟨T,w,⟨rfl,hT,hz⟩,⟨0,⟨by omega,fun k hk=>by omega⟩,rfl,fun i hi=>rfl,rfl,rfl⟩,fun i hI=>⟨fun hl=>⟨by omega,hl,fun h=>noFF fun h1=>h1.a i (by omega) h,fun h=>⟨by omega,i+1,⟨by omega,fun k hk=>?_⟩,by omega,by omega⟩⟩,fun hl=>yesT ⟨fun k hk=>hI.b k (by omega)⟩⟩⟩
 by_cases e:k<i
 ·exact hI.b k e
 ·obtain rfl:k=i:=by omega
  exact h
theorem cln_ok:clnC.Ok Try.prog:=by
 refine ⟨by kernel_rfl,fun args k hk=>?_⟩
 simp only [clnC] at hk
 split at hk
 ·split at hk
  ·obtain ⟨T,w,⟨rfl,hT,hz⟩,hk⟩:=hk
   exact ⟨_,Does.plain (funH_does fol_cs1 nil_x nil_ic mixed (cln_true hT hz)) trivial,hk⟩
  ·exact hk.elim
 ·exact hk.elim
theorem cl_mono {T:Tn} {w:Nat→Bool} {y z:Int} (h:y≤z) (hc:clP T w z):clP T w y:=⟨fun k hk hp=>by
 have:=sl_le (T:=T) (w:=tW w) (c:=coH T y) (d:=coH T z) (m:=k) fun h _=>by
  show min (T.hi h+y) 10000≤min (T.hi h+z) 10000
  omega
 exact hc.a k hk (by omega)⟩
theorem prd_true {T:Tn} {w:Nat→Bool} {z:Int} (hT:okT T) (hz:0≤z∧z≤10000):prdG T w z:=by
 rw [prdG_vc]
 simp only [rI,rE,tt3,tt4,tt5,tt13,tt14,rI,rE,tt3,tt4,tt5,tt13,tt14,and_true,true_and,Nat.zero_lt_one,and_self,implies_true]
 exact ⟨by omega,T,w,⟨rfl,rfl⟩,T,w,⟨rfl,hT,by omega,by omega⟩,Iff.rfl⟩
theorem rsd_cs:SoundS Try.prog (ctrsF [rsdC] (ctrs [clnC])):=ctrsF_sound (one_cs cln_ok) (by intro x hx; simp at hx; subst hx; exact rsd_ok)
theorem prd_ok:prdC.Ok Try.prog:=by
 refine ⟨by kernel_rfl,fun args k hk=>?_⟩
 simp only [prdC] at hk
 split at hk
 ·obtain ⟨T,w,⟨rfl,rfl,hT,hz⟩,hk⟩:=hk
  exact ⟨_,Does.plain (funH_does rsd_cs nil_x nil_ic mixed (prd_true hT hz)) trivial,hk⟩
 ·exact hk.elim
theorem mg_is {T:Tn} {w:Nat→Bool} {m:Nat} (h:m≤10000) (lo:∀ p:Nat,p<m→clP T w ((p:Int)+1)) (hi:m<10000→¬ clP T w ((m:Int)+1)):mgN T w=m:=by
 have h1:=fwR_le (p:=fun k:Nat=>¬ clP T w ((k:Int)+1)) 10000 0
 have h2:=fwR_not (p:=fun k:Nat=>¬ clP T w ((k:Int)+1)) 10000 0
 have h3:=fwR_hit (p:=fun k:Nat=>¬ clP T w ((k:Int)+1)) 10000 0
 show fwR (fun k:Nat=>¬ clP T w ((k:Int)+1)) 10000 0=m
 generalize fwR (fun k:Nat=>¬ clP T w ((k:Int)+1)) 10000 0=g at *
 rcases Nat.lt_trichotomy g m with e | e | e
 ·exact absurd (lo g e) (h3 (by omega))
 ·exact e
 ·exact absurd (hi (by omega)) (h2 m (Nat.zero_le _) e)
theorem sch_true {T:Tn} {w:Nat→Bool} (hT:okT T):schG T w:=by
 rw [schG_vc]
 have eS:shP 1=2:=rfl
 have e1:IntKind.u64.signed=false:=rfl
 have e2:IntKind.u64.bits=64:=rfl
 simp only [schG0,rI,rE,tt3,tt4,tt5,tt13,tt14,rI,rE,tt3,tt4,tt5,tt13,tt14,and_true,true_and,Nat.zero_lt_one,and_self,implies_true,Classical.not_not,eS,e1,e2,Bool.false_eq_true,if_false]
 refine ⟨⟨(0,10000),⟨by simp,by simp,fun p hp=>by simp at hp,fun p h1 h2=>by simp at h1; omega⟩,rfl,rfl⟩,fun ⟨i,j⟩ hz=>?_⟩
 have hle:=hz.le
 have hn:=hz.n
 have hlo:=hz.lo
 have hhi:=hz.hi
 simp only at hle hn hlo hhi ⊢
 obtain ⟨m,hm,hm1,hm2⟩:∃ m:Nat,((i:Int)+(j:Int)).fdiv 2=(m:Int)∧2*m≤i+j∧i+j≤2*m+1:=by
  refine ⟨(i+j) / 2,?_,by omega,by omega⟩
  rw [Int.fdiv_eq_ediv_of_nonneg _ (by omega)]
  omega
 rw [hm]
 refine ⟨fun hl=>⟨by omega,⟨by omega,?_⟩,by omega,by omega,T,w,⟨rfl,rfl,hT,by omega,by omega⟩,fun hc=>⟨by omega,(m+1,j),⟨by simp; omega,by simp; omega,fun p hp=>?_,fun p h1 h2=>hhi p h1 h2⟩,by simp; omega,by simp,rfl⟩,fun hc=>⟨(i,m),⟨by simp; omega,by simp; omega,fun p hp=>hlo p hp,fun p h1 h2 h3=>?_⟩,by simp; omega,rfl,rfl⟩⟩,fun hl=>?_⟩
 ·have:(Int.ofNat (2 ^ 64):Int)=18446744073709551616:=by decide
  omega
 ·exact cl_mono (by simp at hp; omega) hc
 ·exact hc (cl_mono (by simp at h1; omega) h3)
 ·rw [mg_is (m:=i) (by omega) (fun p hp=>hlo p (by omega)) (fun h=>hhi i (by omega) h)]
theorem sch_ok:schC.Ok Try.prog:=by
 refine ⟨by kernel_rfl,fun args k hk=>?_⟩
 simp only [schC] at hk
 split at hk
 ·obtain ⟨T,w,⟨rfl,rfl,rfl,hT⟩,hk⟩:=hk
  exact ⟨_,Does.plain (funH_does (one_cs prd_ok) nil_x nil_ic mixed (sch_true hT)) trivial,hk⟩
 ·exact hk.elim
theorem mrg_true (T:Tn) (n:Nat) (w:Nat→Bool):mrgG T n w:=by
 rw [mrgG_vc]
 simp only [rI,rE,tt3,tt4,tt5,tt13,tt14,rI,rE,tt3,tt4,tt5,tt13,tt14,and_true,true_and,Nat.zero_lt_one,and_self,implies_true,Classical.not_not]
 refine ⟨T,w,⟨rfl,rfl⟩,fun h=>⟨by unfold mrN; rw [if_neg h],by unfold mrE; rw [if_neg h]⟩,fun h=>?_⟩
 have hT:okT T:=Classical.byContradiction fun hn=>by have:=(ch_bad (n:=n) (w:=w) hn).2; omega
 have hl:n=T.nl:=Classical.byContradiction fun hn=>by have:=(ch_len (w:=w) hT hn).2; omega
 subst hl
 exact ⟨T,w,⟨rfl,rfl⟩,T,w,⟨rfl,hT,by omega,by omega⟩,fun hc=>⟨by unfold mrN; rw [if_pos h,if_neg hc],by unfold mrE; rw [if_pos h,if_neg hc]⟩,fun hc=>⟨T,w,⟨rfl,rfl,hT⟩,by unfold mrN; rw [if_pos h,if_pos hc],by unfold mrE; rw [if_pos h,if_pos hc]⟩⟩
theorem mrg_ok:(mrgC 25).Ok Try.prog:=by
 refine ⟨by kernel_rfl,fun args k hk=>?_⟩
 simp only [mrgC] at hk
 split at hk
 ·obtain ⟨T,w,⟨rfl,hw⟩,hk⟩:=hk
  rw [hw]
  have hcs:SoundS Try.prog (ctrsF [rsdC] (ctrs [chkC,clnC,schC])):=ctrsF_sound (ctrs_sound (by
   intro x hx
   simp only [List.mem_cons,List.not_mem_nil,or_false] at hx
   rcases hx with rfl | rfl | rfl
   ·exact chk_ok
   ·exact cln_ok
   ·exact sch_ok)) (by intro x hx; simp at hx; subst hx; exact rsd_ok)
  exact ⟨_,Does.plain (funH_does hcs nil_x nil_ic mixed (mrg_true T _ w)) (by simp [plainS,plainS.plainL,b6]),hk⟩
 ·exact hk.elim
end Go.Proofs.Ytpdcajchppoocaa
