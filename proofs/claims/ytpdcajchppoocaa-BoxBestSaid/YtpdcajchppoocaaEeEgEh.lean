import Derived.Test.YtpdcajchppoocaaEcVEdVEeVEfV
set_option linter.unusedVariables false
set_option linter.unusedSimpArgs false
set_option maxRecDepth 100000
namespace Go.Proofs.Ytpdcajchppoocaa
open Go Go.Lg
attribute [local irreducible] bodyH
theorem trn1_true {T:Tn} {s:St} (h:okT (atN 1 T)) (hs:okS (atN 1 T) s) (hn:2≤s.n):trn1G T s:=by
 have h4:=hs.n
 simp only [atN] at h4
 omega
theorem trn2_true {T:Tn} {s:St} (h:okT (atN 2 T)) (hs:okS (atN 2 T) s) (hn:2≤s.n):trn2G T s:=by
 have h4:=hs.n
 simp only [atN] at h4
 rw [trn2G_vc]
 have h1:=h.re
 have h2:=h.rv
 have h3:=hs.h
 have h5:=hs.rv 0 (by show 0<2; omega)
 simp only [atN] at h1 h2 h5
 obtain ⟨hh,n,bx,fo,rv,ba⟩:=s
 simp only at *
 obtain rfl:n=2:=by omega
 simp [iZ,nZ,rI,rE,tt3,tt4,tt5,tt13,tt14,roF,upF,coS,atN]
 exact ⟨fun hr=>⟨by omega,by omega,(if_pos hr).symm,(if_pos hr).symm⟩,fun hr=>⟨by omega,(if_neg (by omega)).symm,(if_neg (by omega)).symm⟩⟩
theorem trn3_true {T:Tn} {s:St} (h:okT (atN 3 T)) (hs:okS (atN 3 T) s) (hn:2≤s.n):trn3G T s:=by
 have h4:=hs.n
 simp only [atN] at h4
 rw [trn3G_vc]
 have h1:=h.re
 have h2:=h.rv
 have h3:=hs.h
 have h5:=hs.rv 0 (by show 0<3; omega)
 simp only [atN] at h1 h2 h5
 obtain ⟨hh,n,bx,fo,rv,ba⟩:=s
 simp only at *
 have hc:n=2∨n=3:=by omega
 rcases hc with rfl | rfl
 all_goals
  simp [iZ,nZ,rI,rE,tt3,tt4,tt5,tt13,tt14,roF,upF,coS,atN]
  exact ⟨fun hr=>⟨by omega,by omega,(if_pos hr).symm,(if_pos hr).symm⟩,fun hr=>⟨by omega,(if_neg (by omega)).symm,(if_neg (by omega)).symm⟩⟩
theorem trn4_true {T:Tn} {s:St} (h:okT (atN 4 T)) (hs:okS (atN 4 T) s) (hn:2≤s.n):trn4G T s:=by
 have h4:=hs.n
 simp only [atN] at h4
 rw [trn4G_vc]
 have h1:=h.re
 have h2:=h.rv
 have h3:=hs.h
 have h5:=hs.rv 0 (by show 0<4; omega)
 simp only [atN] at h1 h2 h5
 obtain ⟨hh,n,bx,fo,rv,ba⟩:=s
 simp only at *
 have hc:n=2∨n=3∨n=4:=by omega
 rcases hc with rfl | rfl | rfl
 all_goals
  simp [iZ,nZ,rI,rE,tt3,tt4,tt5,tt13,tt14,roF,upF,coS,atN]
  exact ⟨fun hr=>⟨by omega,by omega,(if_pos hr).symm,(if_pos hr).symm⟩,fun hr=>⟨by omega,(if_neg (by omega)).symm,(if_neg (by omega)).symm⟩⟩
theorem trn5_true {T:Tn} {s:St} (h:okT (atN 5 T)) (hs:okS (atN 5 T) s) (hn:2≤s.n):trn5G T s:=by
 have h4:=hs.n
 simp only [atN] at h4
 rw [trn5G_vc]
 have h1:=h.re
 have h2:=h.rv
 have h3:=hs.h
 have h5:=hs.rv 0 (by show 0<5; omega)
 simp only [atN] at h1 h2 h5
 obtain ⟨hh,n,bx,fo,rv,ba⟩:=s
 simp only at *
 have hc:n=2∨n=3∨n=4∨n=5:=by omega
 rcases hc with rfl | rfl | rfl | rfl
 all_goals
  simp [iZ,nZ,rI,rE,tt3,tt4,tt5,tt13,tt14,roF,upF,coS,atN]
  exact ⟨fun hr=>⟨by omega,by omega,(if_pos hr).symm,(if_pos hr).symm⟩,fun hr=>⟨by omega,(if_neg (by omega)).symm,(if_neg (by omega)).symm⟩⟩
theorem trn_true {T:Tn} {s:St} (h:okT T) (hs:okS T s) (hn:2≤s.n):trnG T s:=by
 have hb:=h.nb
 have key:∀ k,T.nb=k→T=atN k T:=fun k hk=>by subst hk; rfl
 have hc:T.nb=1∨T.nb=2∨T.nb=3∨T.nb=4∨T.nb=5:=by omega
 rcases hc with hc | hc | hc | hc | hc
 ·have e:=key _ hc
  have:=trn1_true (T:=T) (s:=s) (by rw [← e]; exact h) (by rw [← e]; exact hs) hn
  unfold trn1G at this
  rwa [← e] at this
 ·have e:=key _ hc
  have:=trn2_true (T:=T) (s:=s) (by rw [← e]; exact h) (by rw [← e]; exact hs) hn
  unfold trn2G at this
  rwa [← e] at this
 ·have e:=key _ hc
  have:=trn3_true (T:=T) (s:=s) (by rw [← e]; exact h) (by rw [← e]; exact hs) hn
  unfold trn3G at this
  rwa [← e] at this
 ·have e:=key _ hc
  have:=trn4_true (T:=T) (s:=s) (by rw [← e]; exact h) (by rw [← e]; exact hs) hn
  unfold trn4G at this
  rwa [← e] at this
 ·have e:=key _ hc
  have:=trn5_true (T:=T) (s:=s) (by rw [← e]; exact h) (by rw [← e]; exact hs) hn
  unfold trn5G at this
  rwa [← e] at this
theorem ser_true (T:Tn) (s:St):serG T s:=by
 rw [serG_vc]
 simp [rI,rE,tt3,tt4,tt5,tt13,tt14]
theorem cb_yes {m:Int} {s:St} (h:s.n<m∧s.ba s.n.toNat=s.h):cbS m s=⟨s.h,s.n+1,s.bx,s.fo,s.rv,upF s.ba s.n 0⟩:=if_pos h
theorem cb_no {m:Int} {s:St} (h:¬ (s.n<m∧s.ba s.n.toNat=s.h)):cbS m s=s:=if_neg h
theorem cbk_true {m:Int} {s:St} (h:0≤s.n∧s.n≤5) (hm:m≤5):cbkG s m:=by
 rw [cbkG_vc]
 by_cases c:s.n<m∧s.ba s.n.toNat=s.h
 ·rw [cb_yes c]
  obtain ⟨hh,n,bx,fo,rv,ba⟩:=s
  simp only at *
  have hc:n=0∨n=1∨n=2∨n=3∨n=4:=by omega
  rcases hc with rfl | rfl | rfl | rfl | rfl
  all_goals
   obtain ⟨c1,c2⟩:=c
   simp at c2
   subst c2
   simp [rI,rE,tt3,tt4,tt5,tt13,tt14,SRow.v,SV.cells,St.sv,cellZ,numZ,b6,upF]
   try omega
 ·rw [cb_no c]
  obtain ⟨hh,n,bx,fo,rv,ba⟩:=s
  simp only at *
  have hc:n=0∨n=1∨n=2∨n=3∨n=4∨n=5:=by omega
  rcases hc with rfl | rfl | rfl | rfl | rfl | rfl
  all_goals
   simp at c
   simp [rI,rE,tt3,tt4,tt5,tt13,tt14,SRow.v,SV.cells,St.sv,cellZ,numZ,b6,upF]
   first
    | (intro h1; exact ⟨fun h2=>absurd h2 (c h1),by omega⟩)
    | omega
    | trace_state
end Go.Proofs.Ytpdcajchppoocaa

set_option maxRecDepth 100000
namespace Go.Proofs.Ytpdcajchppoocaa
open Go Go.Lg
attribute [local irreducible] bodyH
theorem five {p:Nat→Prop} (h0:p 0) (h1:p 1) (h2:p 2) (h3:p 3) (h4:p 4) {j:Nat} (hj:j<5):p j:=by
 have:j=0∨j=1∨j=2∨j=3∨j=4:=by omega
 rcases this with rfl | rfl | rfl | rfl | rfl <;> assumption
theorem cell_rv (s:St) {j:Nat} (hj:j<5):cellZ s.sv.cells (12+j)=s.rv j:=five (p:=fun j=>cellZ s.sv.cells (12+j)=s.rv j) rfl rfl rfl rfl rfl hj
theorem cell_fo (s:St) {j:Nat} (hj:j<5):cellZ s.sv.cells (7+j)=s.fo j:=five (p:=fun j=>cellZ s.sv.cells (7+j)=s.fo j) rfl rfl rfl rfl rfl hj
theorem cell_bx (s:St) {j:Nat} (hj:j<5):cellZ (dropS (cellsOf s) 2) (0+j)=s.bx j:=five (p:=fun j=>cellZ (dropS (cellsOf s) 2) (0+j)=s.bx j) rfl rfl rfl rfl rfl hj
theorem itr_true {T:Tn} {s:St} (h:okT T) (hs:okS T s):itrG T s:=by
 rw [itrG_vc]
 simp only [rI,rE,tt3,tt4,tt5,tt13,tt14,and_true,true_and,Nat.zero_lt_one,and_self,implies_true,Int.toNat_natCast,Nat.zero_add,Nat.add_zero,Nat.one_mul,Nat.mul_one,Classical.not_not,iff_self,Bool.false_eq_true,imp_false,and_imp,true_implies,forall_const,Int.le_refl]
 have hn:=hs.n
 have hb:=h.nb
 refine ⟨by omega,by omega,⟨0,by omega,rfl,by omega,fun i hi=>?_,by omega,rfl⟩,fun z hz=>⟨fun hl=>?_,fun hl=>by omega⟩⟩
 ·have:=cell_bx s (j:=i) (by omega)
  show (SV.agg [i6 (cellZ (dropS (cellsOf s) 2) (0+i))]).den=_
  rw [this]; rfl
 ·have hx:=hs.bx z (by omega)
  exact ⟨by omega,by omega,hx.1,hx.2,by omega,by omega,z+1,by omega,by omega,rfl,by omega⟩
theorem srt_true {T:Tn} (h:1≤T.nb∧T.nb≤5):srtG T:=by
 rw [srtG_vc]
 simp only [rI,rE,tt3,tt4,tt5,tt13,tt14,and_true,true_and,Nat.zero_lt_one,and_self,implies_true,Int.toNat_natCast,Nat.zero_add,Nat.add_zero,Nat.one_mul,Nat.mul_one,Classical.not_not,iff_self,Bool.false_eq_true,imp_false,and_imp,true_implies,forall_const,Int.le_refl]
 refine ⟨⟨0,by simp⟩,fun z hz=>⟨fun hl=>⟨by omega,by omega,by omega,by omega,by omega,by omega,by omega,by omega,by omega,z+1,by omega,by omega,by omega,?_⟩,fun hl=>?_⟩⟩
 ·have hz5:z<5:=by omega
  revert hz5
  clear hz hl
  intro hz5
  have:z=0∨z=1∨z=2∨z=3∨z=4:=by omega
  rcases this with rfl | rfl | rfl | rfl | rfl <;> simp
 ·have:z=T.nb:=by omega
  subst this
  simp
theorem tk_def (T:Tn) (s:St) (c:Int) (j:Nat):tkS T s c j=min (min (lvS T s c j) (T.rt (s.bx j).toNat)) (T.rm (s.bx j).toNat - T.we*s.rv j - s.fo j):=rfl
theorem pas_true {T:Tn} {s:St} (h:okT T) (hs:okS T s) (hh:s.h≤15) {c:Int} (hc:0≤c∧c≤10000):pasG T s c:=by
 rw [pasG_vc]
 simp only [rI,rE,tt3,tt4,tt5,tt13,tt14,and_true,true_and,Nat.zero_lt_one,and_self,implies_true,Int.toNat_natCast,Nat.zero_add,Nat.add_zero,Nat.one_mul,Nat.mul_one,Classical.not_not,iff_self,Bool.false_eq_true,imp_false,and_imp,true_implies,forall_const,Int.le_refl]
 have hn:=hs.n
 have hb:=h.nb
 have h0:=hs.h
 refine ⟨T,s,rfl,rfl,T,s,rfl,rfl,h,hs,⟨0,⟨rfl,by omega⟩,rfl,rfl,by simp,by simp,by simp,by simp,by simp,rfl⟩,fun j hj z hz hle=>?_,fun z hz hle=>?_⟩
 ·subst hz
  have hj5:z<5:=by omega
  have hjn:z<T.nb:=by omega
  rw [cell_rv _ hj5,cell_fo _ hj5]
  have e1:(paS T s c z).rv z=s.rv z:=rfl
  have e2:(paS T s c z).fo z=s.fo z:=if_neg (Nat.lt_irrefl z)
  rw [e1,e2,← tk_def]
  have hrv:=hs.rv z hjn
  have hfo:=hs.fo z hjn
  have hm:=mul_in h hrv
  have hbx:=hs.bx z hjn
  have hrm:=h.bx (s.bx z).toNat (by omega)
  obtain ⟨l1,l2,l3⟩:=lv_in h hs hc.1 z (by omega)
  obtain ⟨l4,l5⟩:=l3 (by omega)
  have l6:tkS T s c z≤lvS T s c z:=by rw [tk_def]; omega
  refine ⟨by omega,by omega,by omega,by omega,by omega,by omega,by omega,by omega,by omega,by omega,by omega,by omega,by omega,by omega,by omega,by omega,by omega,z+1,⟨rfl,by omega⟩,?_⟩
  have e3:lvS T s c z - tkS T s c z=lvS T s c (z+1):=rfl
  rw [e3]
  clear l1 l2 l3 l4 l5 l6 hrm hbx hm hfo hrv e1 e2 e3 hjn hle hj
  have:z=0∨z=1∨z=2∨z=3∨z=4:=by omega
  rcases this with rfl | rfl | rfl | rfl | rfl <;> simp
 ·have key:∀ (k:Nat) (A B:Int),(if k<z then A else B)=if (k:Int)<s.n then A else B:=fun k A B=>by
   by_cases q:k<z
   ·rw [if_pos q,if_pos (by omega)]
   ·rw [if_neg q,if_neg (by omega)]
  exact ⟨by omega,by rw [hz]; rfl,key 0 _ _,key 1 _ _,key 2 _ _,key 3 _ _,key 4 _ _⟩
end Go.Proofs.Ytpdcajchppoocaa

set_option maxRecDepth 100000
namespace Go.Proofs.Ytpdcajchppoocaa
open Go Go.Lg
attribute [local irreducible] bodyH
theorem mixed:Try.prog.follows .mixedOrders=true:=by kernel_rfl
theorem nil_cs:SoundS Try.prog (ctrs []):=ctrs_sound (by simp)
theorem nil_ic:SoundIH Try.prog (ictrs []):=ictrs_sound (by simp)
theorem nil_x:SoundXH Try.prog noGhost γ0 noX:=noX_sound
def cbkP:PCtr:=⟨52,22,fun v args k=>match args with
 | [.int .i64 m]=>∃ s:St,v=s.sv∧(0≤s.n∧s.n≤5∧m≤5)∧k (cbS m s).sv (.tup [])
 | _=>False⟩
def trnP:PCtr:=⟨53,22,fun v args k=>match args with
 | [x]=>∃ (T:Tn) (s:St),v=s.sv∧x=tV T∧(okT T∧okS T s∧2≤s.n)∧k (tnS T s).sv (b6 (coS T s))
 | _=>False⟩
def pasP:PCtr:=⟨54,22,fun v args k=>match args with
 | [x,.int .i64 c]=>∃ (T:Tn) (s:St),v=s.sv∧x=tV T∧(okT T∧okS T s∧s.h≤15∧0≤c∧c≤10000)∧k (psS T s c).sv (b6 (slS T s c))
 | _=>False⟩
theorem sv_plain (s:St):plainS s.sv:=by simp [St.sv,plainS,plainS.plainL,b6]
theorem cbk_ok:cbkP.Ok Try.prog:=by
 refine ⟨by kernel_rfl,fun v args k hk=>?_⟩
 simp only [cbkP] at hk
 split at hk
 ·rename_i m
  obtain ⟨s,rfl,⟨h1,h2,h3⟩,hk⟩:=hk
  refine ⟨_,_,ptH_ok (x':=(cbS m s).sv) (res:=.tup []) nil_cs nil_x nil_ic mixed (sv_plain _) (sv_plain _) ?_ (cbk_true ⟨h1,h2⟩ h3),hk⟩
  simp [plainS,plainS.plainL]
 ·exact hk.elim
theorem rot_x:SoundXH Try.prog noGhost γ0 rotX:=inl_sound (ys:=none) nil_cs (numX_sound noX_sound) trivial nil_ic mixed
theorem trn_ok:trnP.Ok Try.prog:=by
 refine ⟨by kernel_rfl,fun v args k hk=>?_⟩
 simp only [trnP] at hk
 split at hk
 ·rename_i x
  obtain ⟨T,s,rfl,rfl,⟨h1,h2,h3⟩,hk⟩:=hk
  refine ⟨_,_,ptH_ok (x':=(tnS T s).sv) (res:=b6 (coS T s)) nil_cs rot_x nil_ic mixed (sv_plain _) (sv_plain _) ?_ (trn_true h1 h2 h3),hk⟩
  simp [plainS,b6]
 ·exact hk.elim
theorem cl_ok:clCtr.OkF Try.prog:=by
 refine ⟨by kernel_rfl,fun args k hk=>?_⟩
 simp only [clCtr] at hk
 split at hk
 ·rename_i v x
  obtain ⟨T,s,rfl,rfl,hk⟩:=hk
  exact ⟨_,funH_does nil_cs nil_x nil_ic mixed (ser_true T s),hk⟩
 ·exact hk.elim
theorem it_ok:itI.Ok Try.prog:=by
 refine ⟨by kernel_rfl,fun fs us k hk=>?_⟩
 simp only [itI] at hk
 split at hk
 ·rename_i c x
  obtain ⟨T,s,rfl,rfl,h1,h2,hk⟩:=hk
  exact ⟨_,_,_,itH_ok nil_cs (fun Γ γ _=>noX_sound) nil_ic mixed (itr_true h1 h2),fun j hj=>rfl,hk⟩
 ·exact hk.elim
theorem pas_ok:pasP.Ok Try.prog:=by
 refine ⟨by kernel_rfl,fun v args k hk=>?_⟩
 simp only [pasP] at hk
 split at hk
 ·rename_i x c
  obtain ⟨T,s,rfl,rfl,⟨h1,h2,h3,h4,h5⟩,hk⟩:=hk
  have hcs:SoundS Try.prog (ctrsF [clCtr] (ctrs [])):=ctrsF_sound nil_cs (by intro x hx; simp at hx; subst hx; exact cl_ok)
  have hic:SoundIH Try.prog (ictrs [itI]):=ictrs_sound (by intro x hx; simp at hx; subst hx; exact it_ok)
  refine ⟨_,_,ptH_ok (x':=(psS T s c).sv) (res:=b6 (slS T s c)) hcs nil_x hic mixed (sv_plain _) (sv_plain _) ?_ (pas_true h1 h2 h3 ⟨h4,h5⟩),hk⟩
  simp [plainS,b6]
 ·exact hk.elim
def tW (w:Nat→Bool):Nat→Prop:=fun h=>w h=true
def twL (n:Nat) (w:Nat→Bool):SV:=.lst 1 n fun h=>.dec (w h=true) inferInstance
def crV (T:Tn) (w:Nat→Bool) (f:SV):SV:=.agg [bxL T,b6 T.we,b6 T.rv,b6 T.re,b6 T.wo,b6 T.ti,.lst 2 T.nl (ldV T),twL T.nl w,f]
def coL (T:Tn):Nat→Int:=T.lo
def coH (T:Tn) (z:Int):Nat→Int:=fun h=>min (T.hi h+z) 10000
def clL:SV:=.val (.func (.func 50) #[] #[])
def clH (z:Int):SV:=.clo (.func 61) [] [.ipt [b6 z]]
noncomputable def c50G (a b:Int):Prop:=funH Try.prog (ctrs []) noX (ictrs []) noL noL 50 [.agg [b6 a,b6 b]] (b6 a)
noncomputable def c61G (a b z:Int):Prop:=funH Try.prog (ctrs []) noX (ictrs []) noL noL 61 [.agg [b6 a,b6 b],.ipt [b6 z]] (b6 (min (b+z) 10000))
def c50C:Ctr:=⟨50,fun args k=>match args with
 | [.agg [.int .i64 a,.int .i64 b]]=>k (b6 a)
 | _=>False⟩
def c61C:Ctr:=⟨61,fun args k=>match args with
 | [.agg [.int .i64 a,.int .i64 b],.ipt [.int .i64 z]]=>(0≤b∧b≤10000∧0≤z∧z≤10001)∧k (b6 (min (b+z) 10000))
 | _=>False⟩
def srtC:Ctr:=⟨51,fun args k=>match args with
 | [.lst 3 n f]=>∃ T:Tn,(n=T.nb∧f=bxV T∧1≤T.nb∧T.nb≤5)∧k (beS T).sv
 | _=>False⟩
noncomputable def fwR (p:Nat→Prop):Nat→Nat→Nat
 | 0,k=>k
 | n+1,k=>open Classical in if p k then k else fwR p n (k+1)
noncomputable def fwA (T:Tn) (w:Nat→Bool):Nat:=fwR (wrA T (tW w) (coL T)) T.nl 0
noncomputable def fsA (T:Tn) (w:Nat→Bool) (c:Nat→Int):St:=open Classical in if fwA T w=T.nl then stA T (tW w) c T.nl else cbS T.nb (stA T (tW w) c (fwA T w))
structure foI (T:Tn) (w:Nat→Bool) (h:Nat):Prop where
 a:1≤h
 b:h≤T.nl
 c:h≤fwA T w
noncomputable def folL (T:Tn) (w:Nat→Bool) (f:SV) (c:Nat→Int):Nat→Option HSpec :=
 oneL 0 (appH1 51 3 (foI T w) (fun h=>T.nl - h) T.nl 2 (fun h=>mkF 51 [(1,.ptr 0 0 0),(2,.ptr 1 0 0),(3,.sl 2 0 h),(12,.lst 2 T.nl (ldV T)),(13,b6 T.nl),(14,b6 h)])
  (fun h=>mkX [vr 9 (crV T w f),vr 22 (stA T (tW w) c h).sv,rw' 1 h fun k=>b6 (slA T (tW w) c k)]))
noncomputable def folCS:CSpec:=ctrs [srtC,c50C,c61C]
noncomputable def folX:CX:=ctrsP [cbkP,trnP,pasP] noX
noncomputable def fol0G (T:Tn) (w:Nat→Bool):Prop:=funH Try.prog folCS folX (ictrs []) (folL T w clL (coL T)) noL 38 [crV T w clL] (.tup [(fsA T w (coL T)).sv,.lst 1 (fwA T w) fun k=>b6 (slA T (tW w) (coL T) k)])
noncomputable def fol1G (T:Tn) (w:Nat→Bool) (z:Int):Prop:=funH Try.prog folCS folX (ictrs []) (folL T w (clH z) (coH T z)) noL 38 [crV T w (clH z)] (.tup [(fsA T w (coH T z)).sv,.lst 1 (fwA T w) fun k=>b6 (slA T (tW w) (coH T z) k)])
end Go.Proofs.Ytpdcajchppoocaa
