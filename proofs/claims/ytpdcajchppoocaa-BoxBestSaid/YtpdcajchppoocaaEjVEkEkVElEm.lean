import Derived.Test.YtpdcajchppoocaaEhVEhV0EiEj
import Derived.Test.YtpdcajchppoocaaPfPgPhPiPjPkPnPxPu
set_option linter.unusedVariables false
set_option linter.unusedSimpArgs false
set_option maxRecDepth 100000
namespace Go.Proofs.Ytpdcajchppoocaa
open Go Go.Lg
local notation "N0"=>(0:Nat)
theorem rsdG_vc (T:Tn) (w:Nat→Bool) (z:Int):rsdG T w z=(N0<(1:Nat)∧N0<(1:Nat)∧T.1=T.1∧(∀ (i:Nat),i<T.1→(bxV T i).den=(bxV T i).den∧True∧True∧True∧True)∧T.5=T.5∧T.6=T.6∧T.7=T.7∧T.8=T.8∧T.9=T.9∧T.10=T.10∧(∀ (i:Nat),i<T.10→(ldV T i).den=(ldV T i).den∧True∧True∧True)∧T.10=T.10∧(∀ (i:Nat),i<T.10→(SV.dec (w i=true) inferInstance).den=(SV.dec (w i=true) inferInstance).den∧True)∧N0<(1:Nat)∧z=z∧True):=by kernel_rfl
theorem endG_vc (T:Tn) (w:Nat→Bool):endG T w=(N0<(1:Nat)∧(True∧True∧N0<(1:Nat)∧True∧True∧N0<(1:Nat)∧True∧True∧True∧True∧(∀ (i:Nat),i<T.1→True∧True∧True∧True)∧(∀ (i:Nat),i<T.10→True∧True∧True)∧(∀ (i:Nat),i<T.10→True)∧∃ (T_1:Tn) (w_1:Nat→Bool),(tV T=tV T_1∧twL T.nl w=twL T_1.nl w_1)∧True∧True∧True∧True∧True∧rE N0∧rE N0∧rE N0∧rE N0∧T.1=T.1∧(∀ (i:Nat),i<T.1→rE ((bxV T i).den)∧True∧True∧True∧True)∧T.5=T.5∧T.6 =
T.6∧T.7=T.7∧T.8=T.8∧T.9=T.9∧rE T.10∧(∀ (i:Nat),i<T.10→rE ((ldV T i).den)∧True∧True∧True)∧rE T.10∧(∀ (i:Nat),i<T.10→rE ((SV.dec (w i=true) inferInstance).den)∧True)∧Value.func (Fn.func (50:Nat)) #[] #[]=Value.func (Fn.func (50:FuncId)) #[] #[]∧T_1.1=T.1∧(∀ (i:Nat),i<T.1→(bxV T_1 i).den=(bxV T i).den∧True∧True∧True∧True)∧T_1.5=T.5∧T_1.6=T.6∧T_1.7=T.7∧T_1.8=T.8∧T_1.9=T.9∧T_1.10=T.10∧(∀ (i:Nat),i<T.10→(ldV T_1 i).den=(ldV T i).den∧True∧True∧True)∧T_1.10=T.10∧(∀ (i:Nat),i <
T.10→(SV.dec (w_1 i=true) inferInstance).den=(SV.dec (w i=true) inferInstance).den∧True)∧rE (Fn.func (61:FuncId))∧rE (SV.denL [b6 (0:Int)])∧(True∧True)∧True)∧∀ (z:Unit),True→N0<(1:Nat)∧N0<(1:Nat)∧T.1=T.1∧(∀ (i:Nat),i<T.1→rE ((bxV T i).den)∧True∧True∧True∧True)∧T.5=T.5∧T.6=T.6∧T.7=T.7∧T.8=T.8∧T.9=T.9∧rE T.10∧(∀ (i:Nat),i<T.10→rE ((ldV T i).den)∧True∧True∧True)∧rE T.10∧(∀ (i:Nat),i<T.10→rE ((SV.dec (w i=true) inferInstance).den)∧True)∧rE (Value.func (Fn.func (50 :
FuncId)) #[] #[])∧T.1=T.1∧(∀ (i:Nat),i<T.1→rE ((bxV T i).den)∧True∧True∧True∧True)∧T.5=T.5∧T.6=T.6∧T.7=T.7∧T.8=T.8∧T.9=T.9∧rE T.10∧(∀ (i:Nat),i<T.10→rE ((ldV T i).den)∧True∧True∧True)∧rE T.10∧(∀ (i:Nat),i<T.10→rE ((SV.dec (w i=true) inferInstance).den)∧True)∧rE (SV.denL [b6 (0:Int)])∧(True∧True)∧True):=by kernel_rfl
end Go.Proofs.Ytpdcajchppoocaa

set_option maxRecDepth 100000
namespace Go.Proofs.Ytpdcajchppoocaa
open Go Go.Lg
attribute [local irreducible] bodyH
theorem rsd_true (T:Tn) (w:Nat→Bool) (z:Int):rsdG T w z:=by
 rw [rsdG_vc]
 simp only [rI,rE,tt3,tt4,tt5,tt13,tt14,and_true,true_and,implies_true]
 and_intros <;> first | rfl | omega
theorem rsd_ok:rsdC.OkF Try.prog:=by
 refine ⟨by kernel_rfl,fun args k hk=>?_⟩
 simp only [rsdC] at hk
 split at hk
 ·obtain ⟨T,w,⟨rfl,hw⟩,hk⟩:=hk
  rw [hw]
  exact ⟨_,funH_does nil_cs nil_x nil_ic mixed (rsd_true T w _),hk⟩
 ·exact hk.elim
theorem end_true (T:Tn) (w:Nat→Bool):endG T w:=by
 rw [endG_vc]
 simp only [rI,rE,tt3,tt4,tt5,tt13,tt14,and_true,true_and,implies_true]
 refine ⟨by omega,⟨by omega,by omega,T,w,⟨rfl,rfl⟩,?_⟩,fun _=>?_⟩
 ·and_intros
  all_goals first | rfl | exact fun i hi=>rfl
 ·exact fun _=>⟨by omega,by omega⟩
noncomputable def endC:Ctr:=⟨37,fun args k=>match args with
 | [x,.lst 1 n f]=>∃ (T:Tn) (w:Nat→Bool),(x=tV T∧SV.lst 1 n f=twL T.nl w)∧k (.tup [crV T w clL,crV T w (clH 0)])
 | _=>False⟩
theorem end_ok:endC.OkF Try.prog:=by
 refine ⟨by kernel_rfl,fun args k hk=>?_⟩
 simp only [endC] at hk
 split at hk
 ·obtain ⟨T,w,⟨rfl,hw⟩,hk⟩:=hk
  rw [hw]
  have hcs:SoundS Try.prog (ctrsF [rsdC] (ctrs [])):=ctrsF_sound nil_cs (by intro x hx; simp at hx; subst hx; exact rsd_ok)
  exact ⟨_,funH_does hcs nil_x nil_ic mixed (end_true T w),hk⟩
 ·exact hk.elim
noncomputable def isfG (n a b:Int):Prop:=funH Try.prog (ctrs []) noX (ictrs []) noL noL 55 [b6 n,b6 a,b6 b] (.dec (a≤n∧n≤b) inferInstance)
def isfC:Ctr:=⟨55,fun args k=>match args with
 | [.int .i64 n,.int .i64 a,.int .i64 b]=>k (.dec (a≤n∧n≤b) inferInstance)
 | _=>False⟩
structure vbx (T:Tn) (u:Int) (i:Nat):Prop where
 a:1≤T.rm i∧T.rm i≤10000
 b:1≤T.rt i∧T.rt i≤10000
 c:0≤T.fo i∧T.fo i≤T.rm i
 d:u<T.rm i
structure vbI (T:Tn) (u:Int) (i:Nat):Prop where
 a:i≤T.nb
 b:∀ j,j<i→vbx T u j
structure vbP (T:Tn) (u:Int):Prop where
 a:1≤T.nb∧T.nb≤5
 b:∀ j,j<T.nb→vbx T u j
structure vlx (T:Tn) (i:Nat):Prop where
 a:¬ T.hi i<T.lo i
 b:0≤T.lo i∧T.lo i≤10000
 c:0≤T.hi i∧T.hi i≤10000
structure vlI (T:Tn) (i:Nat):Prop where
 a:i≤T.nl
 b:∀ j,j<i→vlx T j
structure vlP (T:Tn):Prop where
 a:T.nl≤16
 b:∀ j,j<T.nl→vlx T j
noncomputable def vbG (T:Tn) (u:Int):Prop:=funH Try.prog (ctrs [isfC]) noX (ictrs []) (oneL 0 (natH (vbI T u) (fun i=>T.nb - i) 0
 (fun i=>mkF 42 [(1,b6 u),(4,.bool false),(11,bxL T),(12,b6 T.nb),(13,b6 i)]) (fun _=>⟨0,.nil⟩) fun _=>none)) noL 56 [bxL T,b6 u] (.dec (vbP T u) (Classical.propDecidable _))
noncomputable def vlG (T:Tn):Prop:=funH Try.prog (ctrs [isfC]) noX (ictrs []) (oneL 0 (natH (vlI T) (fun i=>T.nl - i) 0
 (fun i=>mkF 32 [(2,.bool false),(8,.lst 2 T.nl (ldV T)),(9,b6 T.nl),(10,b6 i)]) (fun _=>⟨0,.nil⟩) fun _=>none)) noL 57 [.lst 2 T.nl (ldV T)] (.dec (vlP T) (Classical.propDecidable _))
noncomputable def vbC:Ctr:=⟨56,fun args k=>match args with
 | [.lst 3 n f,.int .i64 u]=>∃ T:Tn,(n=T.nb∧f=bxV T)∧k (.dec (vbP T u) (Classical.propDecidable _))
 | _=>False⟩
noncomputable def vlC:Ctr:=⟨57,fun args k=>match args with
 | [.lst 2 n f]=>∃ T:Tn,(n=T.nl∧f=ldV T)∧k (.dec (vlP T) (Classical.propDecidable _))
 | _=>False⟩
noncomputable def vtG (T:Tn):Prop:=funH Try.prog (ctrs [isfC,vbC,vlC]) noX (ictrs []) noL noL 41 [tV T] (.dec (okT T) (Classical.propDecidable _))
noncomputable def vtC:Ctr:=⟨41,fun args k=>match args with
 | [x]=>∃ T:Tn,x=tV T∧k (.dec (okT T) (Classical.propDecidable _))
 | _=>False⟩
noncomputable def chH (T:Tn) (n:Nat) (w:Nat→Bool):Int:=open Classical in if okT T∧n=T.nl then fwA T w else 0
noncomputable def chE (T:Tn) (n:Nat) (w:Nat→Bool):Int:=open Classical in if okT T then (if n=T.nl then (if fwA T w<n then 6 else 0) else 2) else 1
noncomputable def chkCS:CSpec:=ctrsF [endC,folC] (ctrs [vtC])
noncomputable def chkG (T:Tn) (n:Nat) (w:Nat→Bool):Prop:=funH Try.prog chkCS noX (ictrs []) noL noL 36 [tV T,twL n w] (.tup [b6 (chH T n w),b6 (chE T n w)])
noncomputable def chkC:Ctr:=⟨36,fun args k=>match args with
 | [x,.lst 1 n f]=>∃ (T:Tn) (w:Nat→Bool),(x=tV T∧SV.lst 1 n f=twL n w)∧k (.tup [b6 (chH T n w),b6 (chE T n w)])
 | _=>False⟩
end Go.Proofs.Ytpdcajchppoocaa

set_option maxRecDepth 100000
namespace Go.Proofs.Ytpdcajchppoocaa
open Go Go.Lg
theorem isfG_vc (n:Int) (a:Int) (b:Int):isfG n a b =
((a≤n→(n≤b↔a≤n∧n≤b)∧True)∧(¬a≤n→(false=true↔a≤n∧n≤b)∧True)):=by kernel_rfl
theorem vbG_vc (T:Tn) (u:Int):vbG T u =
((¬((1:Int)≤(↑T.1:Int)∧(↑T.1:Int)≤(5:Int))→(false=true↔vbP T u)∧True)∧(¬¬((1:Int)≤(↑T.1:Int)∧(↑T.1:Int)≤(5:Int))→(∃ (z:Nat),vbI T u z∧u=u∧rE false∧T.1=T.1∧(∀ (i:Nat),i<T.1→rE ((bxV T i).den)∧True∧True∧True∧True)∧rE (↑T.1:Int)∧(0:Int)=(↑z:Int)∧True)∧∀ (z:Nat),vbI T u z→((↑z:Int)<(↑T.1:Int)→(0:Int)≤(↑z:Int)∧(↑z:Int)<(↑T.1:Int)∧(0:Nat)<(1:Nat)∧(¬((1:Int)≤T.2 (↑z:Int).toNat∧T.2 (↑z:Int).toNat≤(10000:Int))→(false=true↔vbP T u)∧True)∧(¬¬((1:Int)≤T.2 (↑z:Int).toNat∧T.2 (↑z:Int).toNat≤(10000:Int))→(0:Nat)<(1:Nat)∧(¬((1:Int)≤T.3 (↑z:Int).toNat∧T.3 (↑z:Int).toNat≤(10000:Int))→(false=true↔vbP T u)∧True)∧(¬¬((1:Int)≤T.3 (↑z:Int).toNat∧T.3 (↑z:Int).toNat≤(10000:Int))→(0:Nat)<(1:Nat)∧(0
: Nat)<(1:Nat)∧(¬((0:Int)≤T.4 (↑z:Int).toNat∧T.4 (↑z:Int).toNat≤T.2 (↑z:Int).toNat)→(false=true↔vbP T u)∧True)∧(¬¬((0:Int)≤T.4 (↑z:Int).toNat∧T.4 (↑z:Int).toNat≤T.2 (↑z:Int).toNat)→(0:Nat)<(1:Nat)∧(T.2 (↑z:Int).toNat≤u→(false=true↔vbP T u)∧True)∧(¬T.2 (↑z:Int).toNat≤u→rI ((↑z:Int)+(1:Int))∧∃ (z_1:Nat),vbI T u z_1∧T.1 - z_1<T.1 - z∧u=u∧rE false∧T.1=T.1∧(∀ (i:Nat),i<T.1→rE ((bxV T i).den)∧True∧True∧True∧True)∧rE (↑T.1:Int)∧(↑z:Int)+(1:Int)=(↑z_1:Int)∧True)))))∧(¬(↑z:Int)<(↑T.1:Int)→(rE true↔vbP T u)∧True))):=by kernel_rfl
theorem vlG_vc (T:Tn):vlG T =
(((16:Int)<(↑T.10:Int)→(false=true↔vlP T)∧True)∧(¬(16:Int)<(↑T.10:Int)→(∃ (z:Nat),vlI T z∧rE false∧rE T.10∧(∀ (i:Nat),i<T.10→rE ((ldV T i).den)∧True∧True∧True)∧rE (↑T.10:Int)∧(0:Int)=(↑z:Int)∧True)∧∀ (z:Nat),vlI T z→((↑z:Int)<(↑T.10:Int)→(0:Int)≤(↑z:Int)∧(↑z:Int)<(↑T.10:Int)∧(0:Nat)<(1:Nat)∧(0:Nat)<(1:Nat)∧(T.12 (↑z:Int).toNat<T.11 (↑z:Int).toNat→(false=true↔vlP T)∧True)∧(¬T.12 (↑z:Int).toNat<T.11 (↑z:Int).toNat→(0:Nat)<(1:Nat)∧(¬((0:Int)≤T.11 (↑z:Int).toNat∧T.11 (↑z:Int).toNat≤(10000:Int))→(false=true↔vlP T)∧True)∧(¬¬((0:Int)≤T.11 (↑z:Int).toNat∧T.11 (↑z:Int).toNat≤(10000:Int))→(0:Nat)<(1:Nat)∧(¬((0:Int)≤T.12 (↑z:Int).toNat∧T.12 (↑z:Int).toNat≤(10000:Int))→(false=true↔vlP T)∧True)
∧ (¬¬((0:Int)≤T.12 (↑z:Int).toNat∧T.12 (↑z:Int).toNat≤(10000:Int))→rI ((↑z:Int)+(1:Int))∧∃ (z_1:Nat),vlI T z_1∧T.10 - z_1<T.10 - z∧rE false∧rE T.10∧(∀ (i:Nat),i<T.10→rE ((ldV T i).den)∧True∧True∧True)∧rE (↑T.10:Int)∧(↑z:Int)+(1:Int)=(↑z_1:Int)∧True))))∧(¬(↑z:Int)<(↑T.10:Int)→(rE true↔vlP T)∧True))):=by kernel_rfl
theorem vtG_vc (T:Tn):vtG T =
((0:Nat)<(1:Nat)∧((0:Int)≤T.6∧T.6≤(5:Int)→(0:Nat)<(1:Nat)∧((0:Int)≤T.5∧T.5≤(10000:Int)→(0:Nat)<(1:Nat)∧((1:Int)≤T.7∧T.7≤(24:Int)→(0:Nat)<(1:Nat)∧((0:Int)≤T.8∧T.8≤(1000:Int)→(0:Nat)<(1:Nat)∧((0:Int)≤T.9∧T.9≤(1000:Int)→(0:Nat)<(1:Nat)∧(0:Nat)<(1:Nat)∧(0:Nat)<(1:Nat)∧rI (T.5*T.6)∧(∀ (i:Nat),i<T.1→True∧True∧True∧True)∧∃ (T_1:Tn),(T.1=T_1.1∧bxV T=bxV T_1)∧(vbP T_1 (T.we*T.rv)→(0:Nat)<(1:Nat)∧(∀ (i:Nat),i<T.10→True∧True∧True)∧∃ (T_2:Tn),(T.10=T_2.10∧ldV T=ldV T_2)∧(vlP T_2↔okT T)∧True)∧(¬vbP T_1 (T.we*T.rv)→(false=true↔okT T)∧True))∧(¬((0:Int)≤T.9∧T.9≤(1000:Int))→(false=true↔okT T)∧True))∧(¬((0:Int)≤T.8∧T.8≤(1000:Int))→(false=true↔okT T)∧True))∧(¬((1
: Int)≤T.7∧T.7≤(24:Int))→(false=true↔okT T)∧True))∧(¬((0:Int)≤T.5∧T.5≤(10000:Int))→(false=true↔okT T)∧True))∧(¬((0:Int)≤T.6∧T.6≤(5:Int))→(false=true↔okT T)∧True)):=by kernel_rfl
theorem chkG_vc (T:Tn) (n:Nat) (w:Nat→Bool):chkG T n w =
((0:Nat)<(1:Nat)∧(∀ (i:Nat),i<T.1→True∧True∧True∧True)∧(∀ (i:Nat),i<T.10→True∧True∧True)∧∃ (T_1:Tn),SV.agg [SV.lst (3:Nat) T.nb (bxV T),SV.int IntKind.i64 T.we,SV.int IntKind.i64 T.rv,SV.int IntKind.i64 T.re,SV.int IntKind.i64 T.wo,SV.int IntKind.i64 T.ti,SV.lst (2:Nat) T.nl (ldV T)]=tV T_1∧(¬okT T_1→(0:Int)=chH T n w∧(1:Int)=chE T n w∧True)∧(¬¬okT T_1→(0:Nat)<(1:Nat)∧(¬(↑n:Int)=(↑T.10:Int)→(0:Int)=chH T n w∧(2:Int)=chE T n w∧True)∧(¬¬(↑n:Int)=(↑T.10:Int)→(0:Nat)<(1:Nat)∧(∀ (i:Nat),i<T.1→True∧True∧True∧True)∧(∀ (i:Nat),i<T.10→True∧True∧True)∧(∀ (i:Nat),i<n→True)∧∃ (T_2:Tn) (w_1:Nat→Bool),(SV.agg [SV.lst (3:Nat) T.nb (bxV T),SV.int IntKind.i64 T.we,SV.int IntKind.i64 T.rv,SV.int IntKind.i64 T.re,SV.int IntKind.i64 T.wo,
SV.int IntKind.i64 T.ti,SV.lst (2:Nat) T.nl (ldV T)]=tV T_2∧(SV.lst (1:Nat) n fun h=>SV.dec (w h=true) inferInstance)=twL T_2.nl w_1)∧(0:Nat)<(1:Nat)∧(∀ (i:Nat),i<T_2.1→True∧True∧True∧True)∧(∀ (i:Nat),i<T_2.10→True∧True∧True)∧(∀ (i:Nat),i<T_2.10→True)∧∃ (T_3:Tn) (w_2:Nat→Bool),(SV.agg [SV.lst (3:Nat) T_2.nb (bxV T_2),SV.int IntKind.i64 T_2.we,SV.int IntKind.i64 T_2.rv,SV.int IntKind.i64 T_2.re,SV.int IntKind.i64 T_2.wo,SV.int IntKind.i64 T_2.ti,SV.lst (2:Nat) T_2.nl (ldV T_2),SV.lst (1:Nat) T_2.nl fun h=>SV.dec (w_1 h=true) inferInstance,SV.val (Value.func (Fn.func (50:FuncId)) #[] #[])]=crV T_3 w_2 clL∧okT T_3)∧((↑(fwA T_3 w_2):Int)<(↑n:Int)→(↑(fwA T_3 w_2):Int)=chH T n w∧(6:Int)=chE T n w∧True)∧(¬(↑(fwA T_3 w_2):Int)<(↑n:Int)→(↑n:Int)=chH T n w∧(0:Int) =
chE T n w∧True)))):=by kernel_rfl
end Go.Proofs.Ytpdcajchppoocaa

set_option maxRecDepth 100000
namespace Go.Proofs.Ytpdcajchppoocaa
open Go Go.Lg
attribute [local irreducible] bodyH
theorem noF {p:Prop} (h:¬ p):(false=true↔p):=⟨fun e=>(Bool.false_ne_true e).elim,fun e=>(h e).elim⟩
theorem isf_true (n a b:Int):isfG n a b:=by
 rw [isfG_vc]
 simp only [rI,rE,tt3,tt4,tt5,tt13,tt14,and_true,true_and,implies_true]
 exact ⟨fun h=>⟨fun h1=>⟨h,h1⟩,fun h1=>h1.2⟩,fun h=>noF fun h1=>h h1.1⟩
theorem isf_ok:isfC.Ok Try.prog:=by
 refine ⟨by kernel_rfl,fun args k hk=>?_⟩
 simp only [isfC] at hk
 split at hk
 ·exact ⟨_,Does.plain (funH_does nil_cs nil_x nil_ic mixed (isf_true _ _ _)) trivial,hk⟩
 ·exact hk.elim
theorem isf_cs:SoundS Try.prog (ctrs [isfC]):=ctrs_sound (by intro x hx; simp at hx; subst hx; exact isf_ok)
theorem vb_true (T:Tn) (u:Int):vbG T u:=by
 rw [vbG_vc]
 simp only [rI,rE,tt3,tt4,tt5,tt13,tt14,and_true,true_and,implies_true]
 refine ⟨fun h=>noF fun h1=>h (by have:=h1.a; omega),fun h=>⟨⟨0,⟨by omega,fun j hj=>by omega⟩,rfl⟩,fun i hI=>⟨fun hl=>?_,fun hl=>?_⟩⟩⟩
 ·have hi:i<T.nb:=by omega
  refine ⟨by omega,hl,by omega,fun h1=>noF fun h2=>h1 (h2.b i hi).a,fun h1=>⟨by omega,fun h2=>noF fun h3=>h2 (h3.b i hi).b,fun h2=>⟨by omega,by omega,fun h3=>noF fun h4=>h3 (h4.b i hi).c,fun h3=>⟨by omega,fun h4=>noF fun h5=>?_,fun h4=>⟨by omega,i+1,⟨by omega,fun j hj=>?_⟩,by omega,by omega⟩⟩⟩⟩⟩
  ·have:=(h5.b i hi).d
   have h4:T.rm i≤u:=h4
   omega
  ·by_cases e:j<i
   ·exact hI.b j e
   ·obtain rfl:j=i:=by omega
    have h4:¬ T.rm j≤u:=h4
    exact ⟨Classical.byContradiction h1,Classical.byContradiction h2,Classical.byContradiction h3,by omega⟩
 ·have:=hI.a
  obtain rfl:i=T.nb:=by omega
  have h:=Classical.byContradiction h
  exact ⟨fun _=>⟨by omega,hI.b⟩,fun _=>trivial⟩
theorem vl_true (T:Tn):vlG T:=by
 rw [vlG_vc]
 simp only [rI,rE,tt3,tt4,tt5,tt13,tt14,and_true,true_and,implies_true]
 refine ⟨fun h=>noF fun h1=>by have:=h1.a; omega,fun h=>⟨⟨0,⟨by omega,fun j hj=>by omega⟩,rfl⟩,fun i hI=>⟨fun hl=>?_,fun hl=>?_⟩⟩⟩
 ·have hi:i<T.nl:=by omega
  refine ⟨by omega,hl,by omega,by omega,fun h1=>noF fun h2=>(h2.b i hi).a h1,fun h1=>⟨by omega,fun h2=>noF fun h3=>h2 (h3.b i hi).b,fun h2=>⟨by omega,fun h3=>noF fun h4=>h3 (h4.b i hi).c,fun h3=>⟨by omega,i+1,⟨by omega,fun j hj=>?_⟩,by omega,by omega⟩⟩⟩⟩
  by_cases e:j<i
  ·exact hI.b j e
  ·obtain rfl:j=i:=by omega
   exact ⟨h1,Classical.byContradiction h2,Classical.byContradiction h3⟩
 ·have:=hI.a
  obtain rfl:i=T.nl:=by omega
  exact ⟨fun _=>⟨by omega,hI.b⟩,fun _=>trivial⟩
theorem vb_ok:vbC.Ok Try.prog:=by
 refine ⟨by kernel_rfl,fun args k hk=>?_⟩
 simp only [vbC] at hk
 split at hk
 ·obtain ⟨T,⟨rfl,rfl⟩,hk⟩:=hk
  exact ⟨_,Does.plain (funH_does isf_cs nil_x nil_ic mixed (vb_true T _)) trivial,hk⟩
 ·exact hk.elim
theorem vl_ok:vlC.Ok Try.prog:=by
 refine ⟨by kernel_rfl,fun args k hk=>?_⟩
 simp only [vlC] at hk
 split at hk
 ·obtain ⟨T,⟨rfl,rfl⟩,hk⟩:=hk
  exact ⟨_,Does.plain (funH_does isf_cs nil_x nil_ic mixed (vl_true T)) trivial,hk⟩
 ·exact hk.elim
theorem okT_of {T:Tn} (h1:0≤T.rv∧T.rv≤5) (h2:0≤T.we∧T.we≤10000) (h3:1≤T.re∧T.re≤24) (h4:0≤T.wo∧T.wo≤1000) (h5:0≤T.ti∧T.ti≤1000) (h6:vbP T (T.we*T.rv)) (h7:vlP T):okT T :=
 ⟨h6.a,h1,h2,h3,h4,h5,h7.a,fun i hi=>by
  have:=h6.b i hi
  exact ⟨this.a.1,this.a.2,this.b.1,this.b.2,this.c.1,this.c.2,this.d⟩,fun i hi=>by
  have:=h7.b i hi
  have h8:=this.a
  exact ⟨this.b.1,by omega,this.c.2⟩⟩
theorem okT_vb {T:Tn} (h:okT T):vbP T (T.we*T.rv):=⟨h.nb,fun i hi=>by
 have:=h.bx i hi
 exact ⟨⟨this.1,this.2.1⟩,⟨this.2.2.1,this.2.2.2.1⟩,⟨this.2.2.2.2.1,this.2.2.2.2.2.1⟩,this.2.2.2.2.2.2⟩⟩
theorem okT_vl {T:Tn} (h:okT T):vlP T:=⟨h.nl,fun i hi=>by
 have:=h.ld i hi
 exact ⟨by omega,by omega,by omega⟩⟩
theorem vt_true (T:Tn):vtG T:=by
 rw [vtG_vc]
 simp only [rI,rE,tt3,tt4,tt5,tt13,tt14,and_true,true_and,implies_true]
 refine ⟨by omega,fun h1=>⟨by omega,fun h2=>⟨by omega,fun h3=>⟨by omega,fun h4=>⟨by omega,fun h5=>⟨by omega,by omega,by omega,?_,T,⟨rfl,rfl⟩,fun h6=>⟨by omega,T,⟨rfl,rfl⟩,fun h7=>okT_of h1 h2 h3 h4 h5 h6 h7,fun h=>okT_vl h⟩,fun h6=>noF fun h=>h6 (okT_vb h)⟩,fun h=>noF fun h6=>h h6.ti⟩,fun h=>noF fun h6=>h h6.wo⟩,fun h=>noF fun h6=>h h6.re⟩,fun h=>noF fun h6=>h h6.we⟩,fun h=>noF fun h6=>h h6.rv⟩
 have a1:=Int.mul_nonneg h2.1 h1.1
 have a2:T.we*T.rv≤10000*5:=Int.mul_le_mul h2.2 h1.2 h1.1 (by omega)
 omega
theorem vt_ok:vtC.Ok Try.prog:=by
 refine ⟨by kernel_rfl,fun args k hk=>?_⟩
 simp only [vtC] at hk
 split at hk
 ·obtain ⟨T,rfl,hk⟩:=hk
  have hcs:SoundS Try.prog (ctrs [isfC,vbC,vlC]):=ctrs_sound (by
   intro x hx
   simp only [List.mem_cons,List.not_mem_nil,or_false] at hx
   rcases hx with rfl | rfl | rfl
   ·exact isf_ok
   ·exact vb_ok
   ·exact vl_ok)
  exact ⟨_,Does.plain (funH_does hcs nil_x nil_ic mixed (vt_true T)) trivial,hk⟩
 ·exact hk.elim
theorem chk_cs:SoundS Try.prog chkCS:=ctrsF_sound (ctrs_sound (by intro x hx; simp at hx; subst hx; exact vt_ok)) (by
 intro x hx
 simp only [List.mem_cons,List.not_mem_nil,or_false] at hx
 rcases hx with rfl | rfl
 ·exact end_ok
 ·exact fol_ok)
section
variable {T:Tn} {n:Nat} {w:Nat→Bool}
theorem ch_bad (h:¬ okT T):chH T n w=0∧chE T n w=1:=by unfold chH chE; simp [h]
theorem ch_len (h:okT T) (h1:n≠T.nl):chH T n w=0∧chE T n w=2:=by unfold chH chE; simp [h,h1]
theorem ch_fw (h:okT T) (h1:n=T.nl) (h2:fwA T w<n):chH T n w=fwA T w∧chE T n w=6:=by unfold chH chE; simp [h,h1,h1 ▸ h2]
theorem ch_good (h:okT T) (h1:n=T.nl) (h2:¬ fwA T w<n):chH T n w=n∧chE T n w=0:=by
 have:=fw_d (T:=T) (w:=w)
 have e:fwA T w=T.nl:=by omega
 unfold chH chE; simp [h,h1,e]
end
theorem chk_true (T:Tn) (n:Nat) (w:Nat→Bool):chkG T n w:=by
 rw [chkG_vc]
 simp only [rI,rE,tt3,tt4,tt5,tt13,tt14,and_true,true_and,implies_true]
 refine ⟨by omega,T,rfl,fun h=>?_,fun h=>⟨by omega,fun h1=>?_,fun h1=>?_⟩⟩
 ·have:=ch_bad (n:=n) (w:=w) h
  exact ⟨this.1.symm,this.2.symm⟩
 ·have:=ch_len (n:=n) (w:=w) (Classical.byContradiction h) (by omega)
  exact ⟨this.1.symm,this.2.symm⟩
 ·have h:=Classical.byContradiction h
  have h1:n=T.nl:=by omega
  refine ⟨by omega,T,w,⟨rfl,by rw [h1]; rfl⟩,by omega,T,w,⟨rfl,h⟩,fun h2=>?_,fun h2=>?_⟩
  ·have:=ch_fw (n:=n) (w:=w) h h1 (by omega)
   exact ⟨this.1.symm,this.2.symm⟩
  ·have:=ch_good (n:=n) (w:=w) h h1 (by omega)
   exact ⟨this.1.symm,this.2.symm⟩
theorem chk_ok:chkC.Ok Try.prog:=by
 refine ⟨by kernel_rfl,fun args k hk=>?_⟩
 simp only [chkC] at hk
 split at hk
 ·obtain ⟨T,w,⟨rfl,hw⟩,hk⟩:=hk
  rw [hw]
  exact ⟨_,Does.plain (funH_does chk_cs nil_x nil_ic mixed (chk_true T _ w)) (by simp [plainS,plainS.plainL,b6]),hk⟩
 ·exact hk.elim
end Go.Proofs.Ytpdcajchppoocaa

set_option maxRecDepth 100000
namespace Go.Proofs.Ytpdcajchppoocaa
open Go Go.Lg
attribute [local irreducible] bodyH
noncomputable def pgmCS:CSpec:=ctrsF [endC,folC] (ctrs [chkC])
theorem pgm_cs:SoundS Try.prog pgmCS:=ctrsF_sound (ctrs_sound (by intro x hx; simp at hx; subst hx; exact chk_ok)) (by
 intro x hx
 simp only [List.mem_cons,List.not_mem_nil,or_false] at hx
 rcases hx with rfl | rfl
 ·exact end_ok
 ·exact fol_ok)
noncomputable def loA (T:Tn) (w:Nat→Bool):Nat→Int:=slA T (tW w) (coL T)
noncomputable def hiA (T:Tn) (w:Nat→Bool):Nat→Int:=slA T (tW w) (coH T 0)
noncomputable def ruV (T:Tn) (w:Nat→Bool):SV:=.lst 2 T.nl fun k=>.agg [b6 (loA T w k),b6 (hiA T w k)]
noncomputable def gsl (n i:Nat):FS→XS→Ms:=fun t _=>match sget n t i with
 | .sl r _ _=>[some r]
 | _=>[]
noncomputable def rowH (n i:Nat) (inv:Nat→Prop) (μ:Nat→Nat) (t:Nat→FS) (X:Nat→XS):HSpec :=
 { toLSpec:={ σ:=Nat,inv:=inv,μ:=μ,nr:=0,ms:=gsl n i,t:=t,X:=X,rd:=fun _ _ k=>∃ z,k z,rdOK:=fun _ _ _ h=>h } }
noncomputable def ruG (T:Tn) (w:Nat→Bool):Prop:=funN Try.prog pgmCS noX (ictrs []) (oneL 0 (rowH 62 4 (fun h=>h≤T.nl) (fun h=>T.nl - h)
 (fun h=>mkF 62 [(4,.sl 0 0 T.nl),(5,b6 T.nl),(10,slpL T w (coL T)),(12,slpL T w (coH T 0)),(43,b6 T.nl),(44,b6 h)])
 (fun h=>mkX [rw' 2 T.nl fun k=>.agg [b6 (if k<h then loA T w k else 0),b6 (if k<h then hiA T w k else 0)]]))) noL 15 [tV T,twL T.nl w] (.tup [ruV T w,b6 T.nl,b6 0])
noncomputable def bdV (T:Tn) (L H:St):SV:=.lst 5 T.nb fun k=>.agg [b6 (L.bx k),b6 (L.fo k),b6 (H.fo k),b6 (L.rv k),.dec (L.n≤k) inferInstance]
noncomputable def gbd:FS→XS→Ms:=fun t _=>match sget 77 t 10,sget 77 t 12,sget 77 t 14 with
 | .ptr a _ _,.ptr b _ _,.sl r _ _=>[some a,some b,some r]
 | _,_,_=>[]
noncomputable def bedL (T:Tn) (L H:St):Nat→Option HSpec:=oneL 0
 { toLSpec:={ σ:=Nat,inv:=fun p=>p≤T.nb,μ:=fun p=>T.nb - p,nr:=0,ms:=gbd,t:=fun p=>mkF 77 [(10,.ptr 0 0 0),(12,.ptr 1 0 0),(14,.sl 2 0 T.nb),(46,b6 T.nb),(47,b6 p)],X:=fun p=>mkX [vr 22 L.sv,vr 22 H.sv,rw' 5 T.nb fun k=>.agg [b6 (if k<p then L.bx k else 0),b6 (if k<p then L.fo k else 0),b6 (if k<p then H.fo k else 0),b6 (if k<p then L.rv k else 0),.dec (k<p∧L.n≤k) inferInstance]],rd:=fun _ _ k=>∃ z,k z,rdOK:=fun _ _ _ h=>h } }
noncomputable def bedG (T:Tn) (w:Nat→Bool):Prop:=funN Try.prog pgmCS noX (ictrs []) (bedL T (fsA T w (coL T)) (fsA T w (coH T 0))) noL 17 [tV T,twL T.nl w] (.tup [bdV T (fsA T w (coL T)) (fsA T w (coH T 0)),b6 0])
end Go.Proofs.Ytpdcajchppoocaa
