import Derived.Test.YtpdcajchppoocaaC10
set_option linter.unusedVariables false
set_option linter.unusedSimpArgs false
set_option maxRecDepth 100000
namespace Go.Proofs.Ytpdcajchppoocaa
open Go Go.Lg
attribute [local irreducible] bodyH
theorem lsB_0 {m:Nat} {p:Nat→Int}:lsB m 0 p=[p]:=by simp [lsB,lsQ]
theorem lsB_s {m d:Nat} {p:Nat→Int}:lsB m (d+1) p=lsB m d (upN p (m - (d+1)) 0) ++ lsB m d (upN p (m - (d+1)) 1):=by
 have e:List.range ((1:Int) - 0+1).toNat=[0,1]:=rfl
 simp only [lsB,lsQ,e,List.flatMap_cons,List.flatMap_nil,List.append_nil]
 rfl
theorem lsB_len {m:Nat}:∀ (d:Nat) (p:Nat→Int),(lsB m d p).length=2 ^ d
 | 0,p=>by rw [lsB_0]; rfl
 | d+1,p=>by rw [lsB_s,List.length_append,lsB_len d,lsB_len d,Nat.pow_succ]; omega
theorem dn_den {a b:Prop} {i:Decidable a} {j:Decidable b} (h:a↔b):(SV.dec a i).den=(SV.dec b j).den:=by
 simp only [SV.den]
 congr 2
 exact decide_eq_decide.2 h
theorem row_b {K K' n i:Nat} {z:Nat→SV} {p:Nat→Int} {x:Bool} {t:Int} (hz:∀ i,z i=.bool false) (ht:x=true↔t=1) (hi:i<n+1):((rowsK K (n+1) (appF n (rowsK K' n (appF 0 z fun q=>SV.dec (p q=1) inferInstance)).f (chainF [SV.bool x]))).f i).den=(SV.dec (upN p n t i=1) inferInstance).den:=by
 show (sel (i<n) (Nat.decLt i n) (sel (i<0) (Nat.decLt i 0) (z i) (SV.dec (p (i - 0)=1) inferInstance)) (SV.bool x)).den=_
 rw [hz]
 show (SV.dec ((i<n∧((i<0∧false=true)∨(¬ i<0∧p (i - 0)=1)))∨(¬ i<n∧x=true)) inferInstance).den=_
 refine dn_den ?_
 unfold upN
 by_cases h:i<n
 ·simp [h]
 ·simp [h,ht]
theorem alqZ_true {m:Nat} {O:List (Nat→Int)} {p:Nat→Int} (hl:(O ++ [p]).length≤1000000):alqZ m O p:=by
 rw [alqZ_vc]
 have e1:(O ++ [p]).length=O.length+1:=by simp
 rw [e1] at hl
 simp only [rI,rE,tt3,tt4,tt5,tt13,tt14,and_true,true_and,Nat.zero_lt_one,and_self,implies_true,Int.toNat_natCast,Nat.zero_add,Nat.add_zero,Nat.one_mul,Nat.mul_one,Classical.not_not,iff_self,Bool.false_eq_true,imp_false,and_imp,true_implies,forall_const,not_true]
 refine ⟨⟨by omega,by omega,by omega,e1.symm,rfl,by omega,e1,fun i hi j hj=>?_,fun i hi j hj=>?_⟩,fun f=>f.elim⟩
 ·exact dn_den (by rw [getD_lo hi])
 ·have:i=0:=by omega
  subst this
  exact dn_den (by rw [Nat.add_zero,getD_at])
theorem alqG_true {M m d:Nat} {O:List (Nat→Int)} {p:Nat→Int} (hm:m≤24) (hd:d+1≤m) (hM:d≤M) (hl:(O ++ lsB m (d+1) p).length≤1000000):alqG M m d O p:=by
 rw [alqG_vc]
 simp only [rI,rE,tt3,tt4,tt5,tt13,tt14,and_true,true_and,Nat.zero_lt_one,and_self,implies_true,Int.toNat_natCast,Nat.zero_add,Nat.add_zero,Nat.one_mul,Nat.mul_one,Classical.not_not,iff_self,Bool.false_eq_true,imp_false,and_imp,true_implies,forall_const]
 have ed:m - (m - (d+1)+1)=d:=by omega
 have e2:O ++ lsB m d (upN p (m - (d+1)) 0) ++ lsB m d (upN p (m - (d+1)) 1)=O ++ lsB m (d+1) p:=by rw [lsB_s,List.append_assoc]
 have hl1:(O ++ lsB m d (upN p (m - (d+1)) 0)).length≤1000000:=by
  rw [← e2,List.length_append] at hl; omega
 refine ⟨fun h=>by omega,fun _=>⟨by omega,by omega,by omega,by omega,Nat.le_refl _,m,O,upN p (m - (d+1)) 0,⟨rfl,fun i hi=>row_b (fun _=>rfl) (by decide) hi,rfl,fun i hi=>rfl,by omega,hm,by omega,by rw [ed]; exact hl1⟩,by omega,by omega,by omega,by omega,Nat.le_refl _,m,O ++ lsB m d (upN p (m - (d+1)) 0),upN p (m - (d+1)) 1,⟨rfl,fun i hi=>row_b (fun _=>rfl) (by decide) hi,by rw [ed],fun i hi=>by rw [ed]; rfl,by omega,hm,by omega,by rw [ed,e2]; exact hl⟩,?_⟩⟩
 rw [ed,e2]
 refine ⟨rfl,rfl,fun i hi=>⟨rfl,fun j hj=>?_⟩⟩
 rw [show m - (0+(m - (d+1))+1)=d by omega,e2]
theorem al_den {b:Nat→SV} {p:Nat→Int} {n:Nat} (h:∀ i,i<n→(b i).den=(SV.dec (p i=1) inferInstance).den):(SV.lst 1 n b).den=(twI n p).den:=by
 simp only [twI,SV.den]; congr 1
 exact List.map_congr_left fun i hi=>by rw [h i (List.mem_range.1 hi)]; rfl
theorem al_step {M:Nat} (hox:SoundO Try.prog (octrs [alO M])) {args:List SV} {N:Nat} {h:Nat→SV} {k:Nat→(Nat→SV)→Prop} (hk:(alO (M+1)).fn.c args N h k):∃ N' h',k N' h' ∧
  DoesO Try.prog 43 (SV.denL args) [denR (some (rowO 1 N h))] fun v ρ'=>∃ j n1 h1,v=.sl j 0 n1∧ρ'[j]?=some (denR (some (rowO 1 n1 h1)))∧(∀ i,i<n1→pureS (h1 i))∧n1=N'∧h1=h':=by
 simp only [alO] at hk
 split at hk
 ·rename_i y n b x
  obtain ⟨m,O,p,⟨rfl,rfl,hb,rfl,hh,hn,hm,hM,hl⟩,hk⟩:=hk
  refine ⟨_,_,hk,?_⟩
  have ea:SV.denL [SV.int .i64 (m:Int),SV.lst 1 n b,SV.sl 0 0 O.length]=SV.denL [b6 m,twI n p,SV.sl 0 0 O.length]:=by simp only [SV.denL,al_den hb]; rfl
  rw [ea,den_row hh]
  by_cases e:n=m
  ·subst e
   rw [Nat.sub_self,lsB_0] at hl ⊢
   exact funO_ok nil_cs (fun Γ γ=>noX_sound) nil_ic (octrs_sound (l:=[]) (by simp)) mixed (alqZ_true hl)
  ·obtain ⟨d,hd⟩:∃ d,m - n=d+1:=⟨m - n - 1,by omega⟩
   have en:n=m - (d+1):=by omega
   rw [hd] at hl ⊢
   subst en
   exact funO_ok nil_cs (fun Γ γ=>noX_sound) nil_ic hox mixed (alqG_true hm (by omega) (by omega) hl)
 ·exact hk.elim
theorem alO_ok:∀ M,(alO M).Ok Try.prog
 | 0=>⟨by kernel_rfl,fun args N h k hk=>by
   simp only [alO] at hk
   split at hk
   ·rename_i y n b x
    obtain ⟨m,O,p,⟨rfl,rfl,hb,rfl,hh,hn,hm,hM,hl⟩,hk⟩:=hk
    obtain rfl:n=m:=by omega
    refine ⟨_,_,hk,?_⟩
    have ea:SV.denL [SV.int .i64 (n:Int),SV.lst 1 n b,SV.sl 0 0 O.length]=SV.denL [b6 n,twI n p,SV.sl 0 0 O.length]:=by simp only [SV.denL,al_den hb]; rfl
    rw [ea,den_row hh,Nat.sub_self,lsB_0]
    rw [Nat.sub_self,lsB_0] at hl
    exact funO_ok nil_cs (fun Γ γ=>noX_sound) nil_ic (octrs_sound (l:=[]) (by simp)) mixed (alqZ_true hl)
   ·exact hk.elim⟩
 | M+1=>⟨by kernel_rfl,fun args N h k hk=>al_step (octrs_sound (by
   intro x hx
   simp only [List.mem_cons,List.not_mem_nil,or_false] at hx
   subst hx
   exact alO_ok M)) hk⟩
end Go.Proofs.Ytpdcajchppoocaa

set_option maxRecDepth 100000
namespace Go.Proofs.Ytpdcajchppoocaa
open Go Go.Lg
theorem cnG_vc (T:Tn) (w:Nat→Bool):cnG T w=((0:Nat)<(1:Nat)∧(∀ (i:Nat),i<T.1→True∧True∧True∧True)∧(∀ (i:Nat),i<T.10→True∧True∧True)∧∃ T_1,(tV T=tV T_1∧T_1.10≤(1000:Nat))∧(0:Nat)<(1:Nat)∧(∀ (i:Nat),i<T.1→True∧True∧True∧True)∧(∀ (i:Nat),i<T.10→True∧True∧True)∧(∀ (i:Nat),i<T.10→True)∧(∀ (i:Nat),i<T_1.10→True)∧∃ T_2 w_1 c,(tV T=tV T_2∧(twL T.nl w)=twL T_2.nl w_1∧((SV.lst (1:Nat) T_1.nl fun j=>b6 (T_1.hi j))=SV.lst (1:Nat) T_2.nl fun j=>b6 (c j))∧okC T_2 c∧∀ (i :
Nat),i<T_2.10→¬wrQ T_2 w_1 c i)∧(∃ (z:Nat),cnI T w z∧T_2.10=T.10∧(∀ (i:Nat),i<T.10→(b6 (slQ T_2 w_1 c i)).den=(b6 (slQ T w T.hi i)).den∧True)∧(rE true↔cnQ T w z)∧(0:Int)=(↑z:Int)∧True)∧∀ (z:Nat),cnI T w z→((↑z:Int)<(↑T.10:Int)→(cnQ T w z→(0:Int)≤(↑z:Int)∧(↑z:Int)<(↑T.10:Int)∧rI ((↑z:Int)+(1:Int))∧∃ (z_1:Nat),cnI T w z_1∧T.10 - z_1<T.10 - z∧rE T.10∧(∀ (i:Nat),i<T.10→rE ((b6 (slQ T w T.hi i)).den)∧True)∧(slQ T w T.hi (↑z:Int).toNat=(0:Int)↔cnQ T w z_1)∧(↑z:Int)+(1:Int) =
(↑z_1:Int)∧True)∧(¬cnQ T w z→rI ((↑z:Int)+(1:Int))∧∃ (z_1:Nat),cnI T w z_1∧T.10 - z_1<T.10 - z∧rE T.10∧(∀ (i:Nat),i<T.10→rE ((b6 (slQ T w T.hi i)).den)∧True)∧(false=true↔cnQ T w z_1)∧(↑z:Int)+(1:Int)=(↑z_1:Int)∧True))∧(¬(↑z:Int)<(↑T.10:Int)→(cnQ T w z↔clP T w (0:Int))∧True)):=by kernel_rfl
end Go.Proofs.Ytpdcajchppoocaa

set_option maxRecDepth 100000
namespace Go.Proofs.Ytpdcajchppoocaa
open Go Go.Lg
end Go.Proofs.Ytpdcajchppoocaa

set_option maxRecDepth 100000
namespace Go.Proofs.Ytpdcajchppoocaa
open Go Go.Lg
attribute [local irreducible] bodyH
theorem cn_cl {T:Tn} {w:Nat→Bool} (h:okR T w):cnQ T w T.nl↔clP T w 0:=by
 have hl:=h.t.nl
 constructor
 ·intro hq
  exact ⟨fun k hk hp=>by
   rw [h.w] at hk
   have:=hq k hk
   rw [rg_hi2 h.t h.w hk] at this
   have e:hiA T w k=slA T (tW w) (coH T 0) k:=rfl
   omega⟩
 ·intro hc j hj
  have h1:=hc.a j (by rw [h.w]; exact hj)
  rw [rg_hi2 h.t h.w hj]
  have e:hiA T w j=slA T (tW w) (coH T 0) j:=rfl
  have h0:=(sl_in h.t (w:=tW w) (c:=coH T 0) (m:=j) (by omega) (fun k hk=>by
   have:=h.t.ld k (by omega)
   show 0≤min (T.hi k+0) 10000
   omega) (fun k hk=>fw_a (by rw [h.w]; omega))).1
  omega
theorem cn_true {T:Tn} {w:Nat→Bool} (h:okR T w):cnG T w:=by
 rw [cnG_vc]
 simp only [rI,rE,tt3,tt4,tt5,tt13,tt14,rI,rE,tt3,tt4,tt5,tt13,tt14,and_true,true_and,Nat.zero_lt_one,and_self,implies_true,Int.toNat_natCast,Nat.zero_add,Nat.add_zero,Nat.one_mul,Nat.mul_one,Classical.not_not,iff_self,Bool.false_eq_true,imp_false,and_imp,true_implies,forall_const]
 have hl:=h.t.nl
 refine ⟨T,⟨rfl,by omega⟩,T,w,T.hi,⟨rfl,rfl,rfl,rg_hi h.t,fun i hi=>rg_no (rg_hi h.t) (by rw [h.w]; exact hi)⟩,⟨0,⟨by omega⟩,rfl,fun i hi=>rfl,⟨fun _ j hj=>(Nat.not_lt_zero j hj).elim,fun _=>trivial⟩,rfl⟩,fun z hz=>⟨fun hlt=>⟨fun hq=>⟨by omega,hlt,by omega,z+1,⟨by omega⟩,by omega,⟨fun e j hj=>?_,fun e=>e z (Nat.lt_succ_self z)⟩,by omega⟩,fun hq=>⟨by omega,z+1,⟨by omega⟩,by omega,⟨fun e=>e.elim,fun e=>hq fun j hj=>e j (by omega)⟩,by omega⟩⟩,fun hlt=>?_⟩⟩
 ·by_cases e2:j<z
  ·exact hq j e2
  ·obtain rfl:j=z:=by omega
   exact e
 ·have:=hz.a
  obtain rfl:z=T.nl:=by omega
  exact cn_cl h
theorem cn_ok:cnC.OkF Try.prog:=by
 refine ⟨by kernel_rfl,fun args k hk=>?_⟩
 simp only [cnC] at hk
 split at hk
 ·obtain ⟨T,w,⟨rfl,hw,h⟩,hk⟩:=hk
  rw [hw]
  have hcs:SoundS Try.prog (ctrsF [rnC,coE] (ctrs [])):=ctrsF_sound nil_cs (by
   intro x hx
   simp only [List.mem_cons,List.not_mem_nil,or_false] at hx
   rcases hx with rfl | rfl
   ·exact rn_ok
   ·exact coE_ok)
  exact ⟨_,funY_does hcs nil_x nil_ic nil_o mixed (cn_true h),hk⟩
 ·exact hk.elim
end Go.Proofs.Ytpdcajchppoocaa

set_option maxRecDepth 100000
namespace Go.Proofs.Ytpdcajchppoocaa
open Go Go.Lg
attribute [local irreducible] bodyH
structure clW (T:Tn) (w:Nat→Bool):Prop where
 a:fwA T w=T.nl
 b:clP T w 0
noncomputable def cnBG (T:Tn) (w:Nat→Bool):Prop:=funY Try.prog (ctrsF [rnC,coD] (ctrs [])) noX (ictrs []) (octrs []) (oneL 0 (unrH 1)) noL 44 [tV T,twL T.nl w] (.bool false)
noncomputable def cnW:Ctr:=⟨44,fun args k=>match args with
 | [x,.lst 1 n f]=>∃ (T:Tn) (w:Nat→Bool),(x=tV T∧(SV.lst 1 n f).den=(twL T.nl w).den∧okT T)∧k (.dec (clW T w) (Classical.propDecidable _))
 | _=>False⟩
noncomputable def coW:Ctr:=⟨40,fun args k=>match args with
 | [x,.lst 1 n f,.lst 1 m g]=>∃ (T:Tn) (w:Nat→Bool),(x=tV T∧(SV.lst 1 n f).den=(twL T.nl w).den∧SV.lst 1 m g=SV.lst 1 T.nl (fun j=>b6 (T.hi j))∧okT T∧clW T w)∧k (coR T w T.hi)
 | _=>False⟩
def wB (p:Nat→Int) (i:Nat):Bool:=decide (p i=1)
noncomputable def aO (T:Tn):List (Nat→Int):=lsB T.nl T.nl zF
noncomputable def aV (T:Tn) (i:Nat):Prop:=clW T (wB ((aO T).getD i zF))
noncomputable def aS (T:Tn) (i:Nat):Int:=(qA T (wB ((aO T).getD i zF)) T.hi T.nl).c
noncomputable def aB (T:Tn) (z:Nat):bstQ:=bsQ (aV T) (aS T) z
open Classical in
noncomputable def aJ (T:Tn) (z:Nat):Int:=if (aB T z).w then (aB T z).j else -1
open Classical in
noncomputable def aC (T:Tn) (z:Nat):Int:=if (aB T z).w then aS T (aB T z).j else 0
noncomputable def rbM:FS→XS→Ms:=fun t X=>match sget 70 t 7 with
 | .sl b _ _=>[some b]
 | _=>[]
structure rbI (T:Tn) (z:Nat):Prop where
 u:z≤(aO T).length
noncomputable def rbH (T:Tn):HSpec :=
 { toLSpec:={ σ:=Nat,inv:=rbI T,μ:=fun i=>(aO T).length - i,nr:=1,ms:=rbM,t:=fun i=>mkF 70 [(1,.ptr 0 0 0),(6,.lst 1 T.nl fun j=>b6 (T.hi j)),(7,.sl 1 0 (aO T).length),(8,b6 (aJ T i)),(9,b6 (aC T i)),(10,b6 i)],X:=fun i=>mkX [vr 7 (tV T),rw' 1 (aO T).length (qB T.nl (aO T))],rd:=fun _ _ k=>∃ z,k z,rdOK:=fun _ _ _ h=>h } }
noncomputable def rbG (T:Tn):Prop:=funY Try.prog (ctrsF [rnC,cnW,coW] (ctrs [trC])) noX (ictrs []) (octrs [alO 24]) (oneL 0 (rbH T)) noL 22 [tV T] (.tup [twL T.nl (wB ((aO T).getD (aB T (aO T).length).j zF)),b6 (aC T (aO T).length),b6 0])
noncomputable def rbFG (T:Tn):Prop:=funY Try.prog (ctrsF [rnC,cnW,coW] (ctrs [trC])) noX (ictrs []) (octrs [alO 24]) (oneL 0 (rbH T)) noL 22 [tV T] (.tup [nlS,b6 0,b6 12])
noncomputable def rbAG (T:Tn):Prop:=funY Try.prog (ctrs [trC]) noX (ictrs []) (octrs []) noL noL 22 [tV T] (.tup [nlS,b6 0,b6 1])
end Go.Proofs.Ytpdcajchppoocaa
