import Derived.Test.YtpdcajchppoocaaEmVEn
import Derived.Test.YtpdcajchppoocaaFa0Fa1Fa2Fa3Fa
import Derived.Test.YtpdcajchppoocaaGaGaVGb
set_option linter.unusedVariables false
set_option linter.unusedSimpArgs false
set_option maxRecDepth 100000
namespace Go.Proofs.Ytpdcajchppoocaa
open Go Go.Lg
attribute [local irreducible] bodyH
structure okR (T:Tn) (w:Nat→Bool):Prop where
 t:okT T
 w:fwA T w=T.nl
noncomputable def ruC:Ctr:=⟨15,fun args k=>match args with
 | [x,.lst 1 n f]=>∃ (T:Tn) (w:Nat→Bool),(x=tV T∧SV.lst 1 n f=twL T.nl w∧okR T w)∧k (.tup [ruV T w,b6 T.nl,b6 0])
 | _=>False⟩
noncomputable def ruD:Ctr:=⟨15,fun args k=>match args with
 | [x,.lst 1 n f]=>∃ (T:Tn) (w:Nat→Bool),(x=tV T∧SV.lst 1 n f=twL n w∧chE T n w≠0)∧k (.tup [.val (.slice none 0 0),b6 (chH T n w),b6 (chE T n w)])
 | _=>False⟩
theorem ruC_ok:ruC.Ok Try.prog:=by
 refine ⟨by kernel_rfl,fun args k hk=>?_⟩
 simp only [ruC] at hk
 split at hk
 ·obtain ⟨T,w,⟨rfl,hw,h⟩,hk⟩:=hk
  rw [hw]
  exact ⟨_,funN_does pgm_cs nil_x nil_ic mixed (ru_true h.t h.w) (by simp [flatS,flatSL,ruV,SV.cells,scS,b6]),hk⟩
 ·exact hk.elim
theorem ruD_ok:ruD.Ok Try.prog:=by
 refine ⟨by kernel_rfl,fun args k hk=>?_⟩
 simp only [ruD] at hk
 split at hk
 ·obtain ⟨T,w,⟨rfl,hw,h⟩,hk⟩:=hk
  rw [hw]
  exact ⟨_,funN_does pgm_cs nil_x nil_ic mixed (ruB_true T _ w h) (by simp [flatS,flatSL,SV.cells,scS,b6]),hk⟩
 ·exact hk.elim
noncomputable def grG (T:Tn) (m:Int):Prop:=funH Try.prog (ctrs []) noX (ictrs []) noL noL 13 [tV T,b6 m] (.dec ((m<T.nl∧T.nl≤16)∨24<T.nl∨9<T.nb) inferInstance)
noncomputable def grC:Ctr:=⟨13,fun args k=>match args with
 | [x,.int .i64 m]=>∃ T:Tn,x=tV T∧k (.dec ((m<T.nl∧T.nl≤16)∨24<T.nl∨9<T.nb) inferInstance)
 | _=>False⟩
def alvC:Ctr:=⟨14,fun args k=>match args with
 | []=>k (.bool true)
 | _=>False⟩
theorem alv_ok:alvC.Ok Try.prog:=by
 refine ⟨by kernel_rfl,fun args k hk=>?_⟩
 simp only [alvC] at hk
 split at hk
 ·exact ⟨.bool true,Does.plain Fa_does trivial,hk⟩
 ·exact hk.elim
end Go.Proofs.Ytpdcajchppoocaa

set_option maxRecDepth 100000
namespace Go.Proofs.Ytpdcajchppoocaa
open Go Go.Lg
theorem grG_vc (T:Tn) (m:Int):grG T m=((0:Nat)<(1:Nat)∧(m<(↑T.10:Int)→(0:Nat)<(1:Nat)∧((↑T.10:Int)≤(16:Int)→(true=true↔m<(↑T.nl:Int)∧T.nl≤(16:Nat)∨(24:Nat)<T.nl∨(9:Nat)<T.nb)∧True)∧(¬(↑T.10:Int)≤(16:Int)→(0:Nat)<(1:Nat)∧((24:Int)<(↑T.10:Int)→(true=true↔m<(↑T.nl:Int)∧T.nl≤(16:Nat)∨(24:Nat)<T.nl∨(9:Nat)<T.nb)∧True)∧(¬(24:Int)<(↑T.10:Int)→(0:Nat)<(1:Nat)∧((9:Int)<(↑T.1:Int)↔m<(↑T.nl:Int)∧T.nl≤(16:Nat)∨(24:Nat)<T.nl∨(9:Nat)<T.nb) ∧
True)))∧(¬m<(↑T.10:Int)→(0:Nat)<(1:Nat)∧((24:Int)<(↑T.10:Int)→(true=true↔m<(↑T.nl:Int)∧T.nl≤(16:Nat)∨(24:Nat)<T.nl∨(9:Nat)<T.nb)∧True)∧(¬(24:Int)<(↑T.10:Int)→(0:Nat)<(1:Nat)∧((9:Int)<(↑T.1:Int)↔m<(↑T.nl:Int)∧T.nl≤(16:Nat)∨(24:Nat)<T.nl∨(9:Nat)<T.nb)∧True))):=by kernel_rfl
end Go.Proofs.Ytpdcajchppoocaa

set_option maxRecDepth 100000
namespace Go.Proofs.Ytpdcajchppoocaa
open Go Go.Lg
attribute [local irreducible] bodyH
theorem gr_true (T:Tn) (m:Int):grG T m:=by
 rw [grG_vc]
 simp only [rI,rE,tt3,tt4,tt5,tt13,tt14,and_true,true_and,implies_true,true_iff]
 refine ⟨by omega,fun h=>⟨by omega,fun h1=>by omega,fun h1=>⟨by omega,fun h2=>by omega,fun h2=>by omega⟩⟩,fun h=>⟨by omega,fun h2=>by omega,fun h2=>by omega⟩⟩
theorem gr_ok:grC.Ok Try.prog:=by
 refine ⟨by kernel_rfl,fun args k hk=>?_⟩
 simp only [grC] at hk
 split at hk
 ·obtain ⟨T,rfl,hk⟩:=hk
  exact ⟨_,Does.plain (funH_does nil_cs nil_x nil_ic mixed (gr_true T _)) trivial,hk⟩
 ·exact hk.elim
end Go.Proofs.Ytpdcajchppoocaa

set_option maxRecDepth 100000
namespace Go.Proofs.Ytpdcajchppoocaa
open Go Go.Lg
attribute [local irreducible] bodyH
structure egI (T:Tn) (i:Nat):Prop where
 a:i≤T.nl
structure egJ (T:Tn) (i:Nat):Prop where
 a:i<T.nl
structure egK (T:Tn) (i:Nat):Prop where
 a:i≤T.nb
end Go.Proofs.Ytpdcajchppoocaa

set_option maxRecDepth 100000
namespace Go.Proofs.Ytpdcajchppoocaa
open Go Go.Lg
end Go.Proofs.Ytpdcajchppoocaa

set_option maxRecDepth 100000
namespace Go.Proofs.Ytpdcajchppoocaa
open Go Go.Lg
attribute [local irreducible] bodyH
def cgT (T:Tn) (a b:Nat→Int):Tn:=⟨T.nb,T.rm,T.rt,T.fo,T.we,T.rv,T.re,T.wo,T.ti,T.nl,a,b⟩
section
variable {T:Tn} {a b:Nat→Int}
theorem cg_lv {s:St} {c:Int}:∀ j,lvS (cgT T a b) s c j=lvS T s c j
 | 0=>rfl
 | j+1=>by
  rw [lvS_succ,lvS_succ]
  unfold tkS
  rw [cg_lv j]
  rfl
theorem cg_tk {s:St} {c:Int} (j:Nat):tkS (cgT T a b) s c j=tkS T s c j:=by
 unfold tkS; rw [cg_lv]; rfl
theorem cg_ps {s:St} {c:Int}:psS (cgT T a b) s c=psS T s c:=by
 unfold psS
 simp only [cg_tk]
theorem cg_st {W:Nat→Prop} {c:Nat→Int}:∀ n,stA (cgT T a b) W c n=stA T W c n
 | 0=>rfl
 | n+1=>by
  show psS (cgT T a b) (wtS (cgT T a b) W (stA (cgT T a b) W c n) n) (c n)=psS T (wtS T W (stA T W c n) n) (c n)
  rw [cg_st n,cg_ps]
  rfl
theorem cg_sl {W:Nat→Prop} {c:Nat→Int} {n:Nat}:slA (cgT T a b) W c n=slA T W c n:=by
 unfold slA slS
 rw [cg_st,cg_lv]
 rfl
theorem cg_wr {W:Nat→Prop} {c:Nat→Int} {n:Nat}:wrA (cgT T a b) W c n↔wrA T W c n:=by
 unfold wrA
 rw [cg_st]
 exact Iff.rfl
theorem fwR_congr {p q:Nat→Prop} (h:∀ k,p k↔q k):∀ n k,fwR p n k=fwR q n k:=by
 have:p=q:=funext fun k=>propext (h k)
 subst this
 exact fun _ _=>rfl
theorem cg_fw {w:Nat→Bool}:fwA (cgT T a b) w=fwA T w:=fwR_congr (fun k=>cg_wr.trans wr_sk) T.nl 0
end
section
variable {T:Tn} {w:Nat→Bool} (h:okR T w)
include h
end
end Go.Proofs.Ytpdcajchppoocaa

set_option maxRecDepth 100000
namespace Go.Proofs.Ytpdcajchppoocaa
open Go Go.Lg
attribute [local irreducible] bodyH
structure cqP (n:Nat) (h:Nat→Int):Prop where
 a:∀ k,k<n→¬ 0<h k
structure cqI (n:Nat) (h:Nat→Int) (i:Nat):Prop where
 a:i≤n
 b:∀ k,k<i→¬ 0<h k
def spL (n:Nat) (l h:Nat→Int):SV:=.lst 2 n fun k=>.agg [b6 (l k),b6 (h k)]
noncomputable def cqG (n:Nat) (l h:Nat→Int):Prop:=funH Try.prog (ctrs []) noX (ictrs []) (oneL 0 (natH (cqI n h) (fun i=>n - i) 0
 (fun i=>mkF 15 [(5,spL n l h),(6,b6 n),(7,b6 i)]) (fun _=>⟨0,.nil⟩) fun _=>none)) noL 34 [spL n l h] (.dec (cqP n h) (Classical.propDecidable _))
noncomputable def cqC:Ctr:=⟨34,fun args k=>match args with
 | [.lst 2 n f]=>∃ (l h:Nat→Int),(SV.lst 2 n f=spL n l h∧n≤100)∧k (.dec (cqP n h) (Classical.propDecidable _))
 | _=>False⟩
noncomputable def mBG (T:Tn) (n:Nat) (w:Nat→Bool):Prop:=funH Try.prog (ctrs [grC,alvC,ruD,mrgC 25]) noX (ictrs []) noL noL 11 [tV T,twL n w] (.bool true)
noncomputable def mGG (T:Tn) (w:Nat→Bool):Prop:=funH Try.prog (ctrsF [moC] (ctrs [grC,alvC,ruC,mrgC 25,cqC])) noX (ictrs []) noL noL 11 [tV T,twL T.nl w] (.bool true)
end Go.Proofs.Ytpdcajchppoocaa

set_option maxRecDepth 100000
namespace Go.Proofs.Ytpdcajchppoocaa
open Go Go.Lg
theorem cqG_vc (n:Nat) (l:Nat→Int) (h:Nat→Int):cqG n l h=((∃ (z:Nat),cqI n h z∧n=n∧(∀ (i:Nat),i<n→rE ((SV.agg [b6 (l i),b6 (h i)]).den)∧True∧True∧True)∧rE (↑n:Int)∧(0:Int)=(↑z:Int)∧True)∧∀ (z:Nat),cqI n h z→((↑z:Int)<(↑n:Int)→(0:Int)≤(↑z:Int)∧(↑z:Int)<(↑n:Int)∧(0:Nat)<(1:Nat)∧((0:Int)<h (↑z:Int).toNat→(false=true↔cqP n h)∧True)∧(¬(0:Int)<h (↑z:Int).toNat→rI ((↑z:Int)+(1:Int))∧∃ (z_1:Nat),cqI n h z_1∧n - z_1<n - z∧n=n∧(∀ (i:Nat),i<n→rE ((SV.agg [b6 (l
i),b6 (h i)]).den)∧True∧True∧True)∧rE (↑n:Int)∧(↑z:Int)+(1:Int)=(↑z_1:Int)∧True))∧(¬(↑z:Int)<(↑n:Int)→(rE true↔cqP n h)∧True)):=by kernel_rfl
theorem mBG_vc (T:Tn) (n:Nat) (w:Nat→Bool):mBG T n w=((0:Nat)<(1:Nat)∧(∀ (i:Nat),i<T.1→True∧True∧True∧True)∧(∀ (i:Nat),i<T.10→True∧True∧True)∧∃ T_1,tV T=tV T_1∧((16:Int)<(↑T_1.nl:Int)∧T_1.nl≤(16:Nat)∨(24:Nat)<T_1.nl∨(9:Nat)<T_1.nb→rE true∧True)∧(¬((16:Int)<(↑T_1.nl:Int)∧T_1.nl≤(16:Nat)∨(24:Nat)<T_1.nl∨(9:Nat)<T_1.nb)→((30:Int)<(↑n:Int)→rE true∧True)∧(¬(30:Int)<(↑n:Int)→(0:Nat)<(1:Nat)∧(∀ (i:Nat),i<T.1→True∧True∧True∧True)∧(∀ (i:Nat),i <
T.10→True∧True∧True)∧(∀ (i:Nat),i<n→True)∧∃ T_2 w_1,(tV T=tV T_2∧twL n w=twL n w_1)∧(0:Nat)<(1:Nat)∧(∀ (i:Nat),i<T.1→True∧True∧True∧True)∧(∀ (i:Nat),i<T.10→True∧True∧True)∧(∀ (i:Nat),i<n→True)∧∃ T_3 w_2,(tV T=tV T_3∧twL n w=twL n w_2∧(chE T_3 n w_2=(0:Int)→False))∧(¬chE T_3 n w_2=(0:Int)→(mrN T_2 n w_1=(0:Int)→(mrE T_2 n w_1=chE T_3 n w_2→rE true∧True)∧(¬mrE T_2 n w_1=chE T_3 n w_2→false=true∧True))∧(¬mrN T_2 n w_1=(0:Int)→false=true∧True))∧(¬¬chE T_3 n w_2=(0 :
Int)→(¬mrE T_2 n w_1=(0:Int)→(mrN T_2 n w_1=(0:Int)→(mrE T_2 n w_1=(12:Int)→False)∧(¬mrE T_2 n w_1=(12:Int)→false=true∧True))∧(¬mrN T_2 n w_1=(0:Int)→false=true∧True))∧(¬¬mrE T_2 n w_1=(0:Int)→False))))):=by kernel_rfl
theorem mGG_vc (T:Tn) (w:Nat→Bool):mGG T w=((0:Nat)<(1:Nat)∧(∀ (i:Nat),i<T.1→True∧True∧True∧True)∧(∀ (i:Nat),i<T.10→True∧True∧True)∧∃ T_1,tV T=tV T_1∧((16:Int)<(↑T_1.nl:Int)∧T_1.nl≤(16:Nat)∨(24:Nat)<T_1.nl∨(9:Nat)<T_1.nb→rE true∧True)∧(¬((16:Int)<(↑T_1.nl:Int)∧T_1.nl≤(16:Nat)∨(24:Nat)<T_1.nl∨(9:Nat)<T_1.nb)→((30:Int)<(↑T.10:Int)→rE true∧True)∧(¬(30:Int)<(↑T.10:Int)→(0:Nat)<(1:Nat)∧(∀ (i:Nat),i<T.1→True∧True∧True∧True)∧(∀ (i:Nat),i<T.10 →
True∧True∧True)∧(∀ (i:Nat),i<T.10→True)∧∃ T_2 w_1,(tV T=tV T_2∧twL T.nl w=twL T.nl w_1)∧(0:Nat)<(1:Nat)∧(∀ (i:Nat),i<T.1→True∧True∧True∧True)∧(∀ (i:Nat),i<T.10→True∧True∧True)∧(∀ (i:Nat),i<T.10→True)∧∃ T_3 w_2,(tV T=tV T_3∧twL T.nl w=twL T_3.nl w_2∧okR T_3 w_2)∧(¬(0:Int)=(0:Int)→(mrN T_2 T.10 w_1=(0:Int)→(mrE T_2 T.10 w_1=(0:Int)→rE true∧True)∧(¬mrE T_2 T.10 w_1=(0:Int)→false=true∧True))∧(¬mrN T_2 T.10 w_1=(0:Int)→false=true∧True))∧(¬¬(0:Int)=(0:Int)→(¬mrE
T_2 T.10 w_1=(0:Int)→(mrN T_2 T.10 w_1=(0:Int)→(mrE T_2 T.10 w_1=(12:Int)→(∀ (i:Nat),i<T_3.10→True∧True∧True)∧∃ l h,((SV.lst (2:Nat) T_3.nl fun k=>SV.agg [b6 (loA T_3 w_2 k),b6 (hiA T_3 w_2 k)])=spL T_3.nl l h∧T_3.10≤(100:Nat))∧(¬cqP T_3.nl h→rE true∧True)∧(¬¬cqP T_3.nl h→false=true∧True))∧(¬mrE T_2 T.10 w_1=(12:Int)→false=true∧True))∧(¬mrN T_2 T.10 w_1=(0:Int)→false=true∧True))∧(¬¬mrE T_2 T.10 w_1=(0:Int)→(∀ (i:Nat),i<T_3.10→True∧True∧True)∧∃ l h,((SV.lst (2:Nat) T_3.nl fun k=>SV.agg
[b6 (loA T_3 w_2 k),b6 (hiA T_3 w_2 k)])=spL T_3.nl l h∧T_3.10≤(100:Nat))∧(¬cqP T_3.nl h→false=true∧True)∧(¬¬cqP T_3.nl h→(mrN T_2 T.10 w_1<(0:Int)→false=true∧True)∧(¬mrN T_2 T.10 w_1<(0:Int)→((10000:Int)<mrN T_2 T.10 w_1→false=true∧True)∧(¬(10000:Int)<mrN T_2 T.10 w_1→(0:Nat)<(1:Nat)∧(∀ (i:Nat),i<T.1→True∧True∧True∧True)∧(∀ (i:Nat),i<T.10→True∧True∧True)∧∃ T_4,(tV T=tV T_4∧okT T_4∧(0:Int)≤mrN T_2 T.10 w_1∧mrN T_2 T.10 w_1≤(10001:Int))∧(∀ (i:Nat),i<T_4.1→True∧True∧True ∧
True)∧(∀ (i:Nat),i<T_4.10→True∧True∧True)∧(∀ (i:Nat),i<T.10→True)∧∃ T_5 w_3,(tV (moT T_4 (mrN T_2 T.nl w_1))=tV T_5∧twL T.nl w=twL T_5.nl w_3∧okR T_5 w_3)∧(0:Nat)<(1:Nat)∧rI (mrN T_2 T.10 w_1+(1:Int))∧(∀ (i:Nat),i<T.1→True∧True∧True∧True)∧(∀ (i:Nat),i<T.10→True∧True∧True)∧∃ T_6,(tV T=tV T_6∧okT T_6∧(0:Int)≤mrN T_2 T.10 w_1+(1:Int)∧mrN T_2 T.10 w_1+(1:Int)≤(10001:Int))∧(∀ (i:Nat),i<T_6.1→True∧True∧True∧True)∧(∀ (i:Nat),i<T_6.10→True∧True∧True)∧(∀ (i:Nat),i <
T.10→True)∧∃ T_7 w_4,(tV (moT T_6 (mrN T_2 T.nl w_1+(1:Int)))=tV T_7∧twL T.nl w=twL T_7.nl w_4∧okR T_7 w_4)∧(rE (0:Int)→(rE (0:Int)→(∀ (i:Nat),i<T_5.10→True∧True∧True)∧∃ l h,((SV.lst (2:Nat) T_5.nl fun k=>SV.agg [b6 (loA T_5 w_3 k),b6 (hiA T_5 w_3 k)])=spL T_5.nl l h∧T_5.10≤(100:Nat))∧(cqP T_5.nl h→(mrN T_2 T.10 w_1=(10000:Int)→rE true∧True)∧(¬mrN T_2 T.10 w_1=(10000:Int)→(∀ (i:Nat),i<T_7.10→True∧True∧True)∧∃ l h,((SV.lst (2:Nat) T_7.nl fun k=>SV.agg [b6 (loA T_7 w_4 k),b6 (hiA T_7 w_4 k)])=spL
T_7.nl l h∧T_7.10≤(100:Nat))∧(¬cqP T_7.nl h→rE true∧True)∧(¬¬cqP T_7.nl h→false=true∧True)))∧(¬cqP T_5.nl h→false=true∧True))∧(¬(0:Int)=(0:Int)→false=true∧True))∧(¬(0:Int)=(0:Int)→false=true∧True))))))))):=by kernel_rfl
end Go.Proofs.Ytpdcajchppoocaa
