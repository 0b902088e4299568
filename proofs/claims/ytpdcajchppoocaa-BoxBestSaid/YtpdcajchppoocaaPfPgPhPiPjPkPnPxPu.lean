import Derived.Test.YtpdcajchppoocaaPdPd1Pd2Pd3Pd4PlPmPqPrPsPtPe
set_option linter.unusedVariables false
set_option linter.unusedSimpArgs false
namespace Go.Lg
open Go.RowKit
variable {P:Program}

theorem DoesA.toDoes {zf:Bool} {f args res} (h:DoesA zf P noGhost f args () [] (fun a s r=>SnapN 0 r a res)):Does P f false args res:=by
 intro w I vals hI hrel
 have hsr:SR w (fun b=>b<w.heap.size) I noβ []:=⟨fun r R l h=>by simp at h,fun r R l h=>by simp at h,fun r R h=>by simp at h,fun r s R S l m h=>by simp at h,hI,fun b hb=>hb,fun r R l h=>by simp at h,fun r R o h=>by simp at h⟩
 refine (h w _ I (fun _=>False) noβ vals (fun _ b hb=>⟨hb,fun h=>h⟩) hsr (fun b hb=>hb.elim) (fun b hb=>.inr fun h=>h) (fun b hb=>hb) (fun l hl=>by cases hl) hrel).mono ?_
 rintro e w' ⟨u,a,s,r,I',β',M',rfl,hs,hk,hg,hs',m1,m2,m3,hd,hr⟩
 refine ⟨u,withLive I' β' r,rfl,hk.sub (fun b hb=>⟨hb,fun h=>h⟩),fun b hb=>?_,fun b hb=>?_,Snap.rel hs hs' hr⟩
 ·rcases hb with hb | ⟨r,R,l,h1,h2,rfl⟩
  ·exact hs'.ilt b hb
  ·exact (hs'.real r R l h1 h2).2.1
 ·rcases hb with hb | ⟨r,R,l,h1,h2,rfl⟩
  ·exact (hg.hI2 b hb).imp (fun h=>⟨rfl,h⟩) id
  ·exact .inr (Nat.le_of_not_lt (fun hlt=>(hs'.real r R l h1 h2).2.2.2 (.inl hlt)))
theorem DoesH.toDoes {f args res} (h:DoesH P noGhost f args () [] (fun a s r=>SnapN 0 r a res)):Does P f false args res :=
 DoesA.toDoes (zf:=false) fun w F I M β vals _=>h w F I M β vals
section
variable {Γ:Ghost} {s:Γ.S} {ρ:Store}
theorem DoesH.of2 {f:FuncId} {fn:Func} {c:Code} {args:List AV} {R:AV→Γ.S→Store→Prop} (hf:P.funcs[f]?=some fn) (hb:fn.body=some c)
  (h:∀ H:HC,H.C.rd=none→H.C.n0=ρ.length→H.C.rg=true→wpH P H Γ c (fun e s' A' ρ'=>(e=.normal∨e=.ret)∧∃ vs,resA P A' ρ' fn.results.toList vs∧PlainA (one? vs)∧∃ A'' ρ'',(∀ a w,SRelH H Γ s' a w A' ρ'→SRelH H Γ s' a w A'' ρ'')∧R (one? vs) s' ρ'') s (args ++ List.replicate (fn.ntmps - args.length) .any) ρ) :
  DoesH P Γ f args s ρ R:=by
 intro w F I M β vals hsr0 hMF hIJ hD hst hrel
 refine (callsIn_wide (n:=0)).1 (callsIn_of_wp_marks (F:=Fence.wide) (n:=0) hf hb trivial ?_ rfl)
 have hlen:vals.size=args.length:=by simpa using hrel.1
 let H:HC:=⟨⟨fun b=>F b∧¬ M b,I,w,w,none,true,preM w.heap.size [],fun _ D l=>preM_up D l,ρ.length,β⟩,M⟩
 have hs:SRelH H Γ s { tmps:=vals ++ Array.replicate (fn.ntmps - vals.size) undef,defers:=[] } w (args ++ List.replicate (fn.ntmps - args.length) .any) ρ:=by
  refine ⟨⟨hst,fun l0 hl=>by cases hl⟩,I,β,M,Keeps.refl _ _,Grow.refl _ _ _ _,F,⟨fun b hb=>hb.1,preM_refl _ _⟩,⟨hMF,fun b hb=>hb.2,hIJ,fun _ h=>h,fun _ h=>.inl h,fun D hD=>(by cases hD),hD⟩,⟨hsr0,⟨[],List.nodup_nil,rfl,by simp⟩,by simp [hlen],fun i hi=>?_⟩⟩
  by_cases h1:i<args.length
  ·rw [getD_app_left _ _ _ _ h1]
   have:=hrel.2 i h1
   have h2:i<vals.size:=by omega
   have e:(vals ++ Array.replicate (fn.ntmps - vals.size) undef).getD i undef=vals.toList.getD i undef:=by
    have h3:i<(vals ++ Array.replicate (fn.ntmps - vals.size) undef).size:=by simp; omega
    simp only [Array.getD,h3,dif_pos,List.getD]
    rw [List.getElem?_eq_getElem (by simpa using h2)]
    simp [Array.getElem_append_left h2]
   rw [e]; exact this
  ·have:(args ++ List.replicate (fn.ntmps - args.length) AV.any).getD i .any=.any:=by
    rw [getD_app_right _ _ _ _ (by omega)]
    unfold List.getD
    by_cases h2:i - args.length<fn.ntmps - args.length
    ·simp [h2]
    ·rw [List.getElem?_eq_none (by simp; omega)]; rfl
   rw [this]; exact .any _
 refine wpIn_mono (h H rfl rfl rfl _ w hs 0) ?_
 rintro e a' w' ⟨s',A0,ρ0,hs0,he,vs,hvs,hpl,A',ρ',hwk,hR⟩
 obtain ⟨_,I',β',M',hk,h0,F',⟨hF1,hF2⟩,hg,hf'⟩:=hwk _ _ hs0
 obtain ⟨_,I0,β0,M0,_,_,F0,_,_,hf0⟩:=hs0
 obtain ⟨Ds,hnd,hdef,hDs⟩:=hf'.df
 obtain ⟨Ds0,_,hdef0,hDs0⟩:=hf0.df
 have hdd:Ds0=Ds:=by rw [← hdef0,hdef]
 subst hdd
 have hdfs:∀ D,D ∈ Ds0→¬ M' D:=fun D hD=>hg.dfs D (hdef ▸ hD)
 obtain ⟨hdef,hge⟩:=preM_nil hF2 hdef
 have hsub:∀ b,F b∨M' b→F' b:=fun b hb=>by
  rcases hb with hb | hb
  ·by_cases hm:M b
   ·exact hg.sub b (hg.up b hm)
   ·exact hF1 b ⟨hb,hm⟩
  ·exact hg.sub b hb
 have hfin:LeavesInM Fence.wide 0 P fn a'.tmps (fun e w'=>∃ u v s' ρ' I' β' M',e=.returned u∧R v s' ρ'∧Keeps (fun b=>F b∧¬ M b) w w'∧Grow w w' I I' ρ.length ρ'.length β β'∧SR w' (fun b=>F b∨M' b) I' β' ρ' ∧
   (∀ b,M b→M' b)∧(∀ b,M' b→M b∨w.heap.size≤b)∧(∀ b,I' b→Γ.J b∨¬ M' b)∧Γ.D s' M' w'∧Rel (cellf w') I' ρ'.length β' v u) a'.defers .returning w':=by
  rw [hdef]
  refine leaves_marks Ds0 w' hnd (fun D hD=>(hDs D hD).2.2) (fun w2 e1 e2 e3 e4 e5 e6 e7=>?_)
  obtain ⟨hsr2,hrel2⟩:=hf'.marks (G:=F') (fun _ h=>h) e4 e6 e7 (fun b hb=>e5 b fun hD=>hb (hDs b hD).1)
  obtain ⟨hsr3,hrel3⟩:=hf0.marks (G:=F0) (fun _ h=>h) e4 e6 e7 (fun b hb=>e5 b fun hD=>hb (hDs0 b hD).1)
  have hf2:FRel w2 F0 I0 β0 { a' with defers:=[] } A0 ρ0:=⟨hsr3,⟨[],List.nodup_nil,rfl,by simp⟩,hf0.size,hrel3⟩
  obtain ⟨u,hu,hru⟩:=results_run (P:=P) hf2 hvs
  have hg2:Grow w' w2 I' I' ρ'.length ρ'.length β' β':=⟨fun b o x _ hx=>by rw [e6]; exact hx,fun b o hx=>by rw [e6]; exact hx,fun _ h=>h,Nat.le_refl _,fun _ _=>rfl,fun _ h=>.inl h,by rw [e4]; exact Nat.le_refl _⟩
  have hold:∀ b,F b→w2.heap[b]?=w'.heap[b]?:=fun b hb=>e5 b (fun hD=>Nat.lt_irrefl _ (Nat.lt_of_lt_of_le (hsr0.flt b hb) (hge b hD)))
  refine ⟨u,hu,u,one? vs,s',ρ',I',β',M',rfl,hR,⟨e1.trans hk.os,e2.trans hk.tape,e3.trans hk.output,by rw [e4]; exact hk.size,fun b hb=>(hold b hb.1).trans (hk.block b hb)⟩,h0.trans hg2,?_,hg.up,fun b hb=>hg.new b hb,hg.rd,?_,hpl _ _ _ _ _ _ _ _ _ hru⟩
  ·refine hsr2.foreign (fun b hb=>?_) (fun r R l h1 h2 hb=>(hsr2.real r R l h1 h2).2.2.2 (hsub _ hb))
   rcases hb with hb | hb
   ·exact Nat.lt_of_lt_of_le (hsr0.flt b hb) (by rw [e4]; exact hk.size)
   ·rw [e4]; exact Γ.lt hg.d b hb
  ·exact Γ.keep hg.d ⟨e1,e2,e3,by rw [e4]; exact Nat.le_refl _,fun b hb=>e5 b fun hD=>hdfs b hD hb⟩ (fun b o h=>by rw [e6]; exact h)
 rcases he with rfl | rfl
 ·exact hfin
 ·exact hfin

theorem RelL.belL {c I N β l vs n} (h:RelL c I N β l vs) (hb:∀ j,j<l.length→Bel n (l.getD j .any)):RelL c I n β l vs:=⟨h.1,fun j hj=>(h.2 j hj).bel (hb j hj)⟩
theorem DoesH.frame {f:FuncId} {args:List AV} {R:AV→Γ.S→Store→Prop} (h:DoesH P Γ f args s ρ R) (hR:∀ v s' ρ',R v s' ρ'→ρ'.length=ρ.length) (hy:Γ.y=none∨0<ρ.length)
  (ha:∀ j,j<args.length→Bel ρ.length (args.getD j .any)) (hb:BelS ρ.length ρ) (ext:Store):DoesH P Γ f args s (ρ ++ ext) fun v s' ρ'=>∃ ρ0,R v s' ρ0∧ρ'=ρ0 ++ ext:=by
 intro w F I M β vals hsr hMF hIJ hD hst hrel
 have htake:(ρ ++ ext).take ρ.length=ρ:=by simp
 have hsr1:SR w F I β ρ:=by
  have:=hsr.trim ρ.length (by simp) (by rw [htake]; exact hb)
  rwa [htake] at this
 have hge:∀ {r:Nat} {R:Root},ρ.length≤r→(ρ ++ ext)[r]?=some (some R)→ext[r - ρ.length]?=some (some R):=fun h1 h2=>by rwa [List.getElem?_append_right h1] at h2
 have hlt:∀ {r:Nat} {R:Root},ρ[r]?=some (some R)→r<ρ.length∧(ρ ++ ext)[r]?=some (some R):=fun h1=>by
  have:=(List.getElem?_eq_some_iff.1 h1).1
  exact ⟨this,by rw [List.getElem?_append_left this]; exact h1⟩
 let F2:Nat→Prop:=fun b=>F b∨∃ r R l,ρ.length≤r∧(ρ ++ ext)[r]?=some (some R)∧β r=some l∧l.b=b
 have hsr2:SR w F2 I β ρ:=hsr1.foreign (fun b hb=>by
   rcases hb with hb | ⟨r,R,l,h1,h2,h3,rfl⟩
   ·exact hsr1.flt b hb
   ·exact (hsr.real r R l h2 h3).2.1) (fun r R l h1 h2 hb=>by
   rcases hb with hb | ⟨r',R',l',h3,h4,h5,h6⟩
   ·exact (hsr1.real r R l h1 h2).2.2.2 hb
   ·have:=hsr.inj r r' R R' l l' (hlt h1).2 h4 h2 h5 h6.symm
    have:=(hlt h1).1
    omega)
 refine (h w F2 I M β vals hsr2 (fun b hb=>.inl (hMF b hb)) hIJ hD (fun l hl=>?_) (hrel.belL ha)).mono ?_
 ·obtain ⟨h1,h2⟩:=hst l hl
  rcases hy with h3 | h3
  ·rw [hl] at h3; cases h3
  ·exact ⟨h3,h2⟩
 rintro e w' ⟨u,v,s',ρ0,I',β',M',rfl,hr,hk,hg,hs,m1,m2,m3,hd,hv⟩
 have hl0:=hR _ _ _ hr
 have hlen:(ρ0 ++ ext).length=(ρ ++ ext).length:=by simp [hl0]
 let β2:Nat→Option Loc:=fun r=>if r<ρ.length then β' r else β r
 have hβ2:∀ r,β2 r=β r:=fun r=>by
  show (if r<ρ.length then β' r else β r)=β r
  split
  ·rename_i h; exact hg.hβ r h
  ·rfl
 have hg2:Grow w w' I I' (ρ ++ ext).length (ρ0 ++ ext).length β β2:=⟨hg.hc,hg.hs,hg.hI,by rw [hlen]; exact Nat.le_refl _,fun r _=>hβ2 r,hg.hI2,hg.hz⟩
 have mv:∀ {a:AV} {x:Value},Rel (cellf w') I' ρ0.length β' a x→Rel (cellf w') I' (ρ0 ++ ext).length β2 a x:=fun h=>h.mono (fun _ _ _ _ h=>h) (fun _ _ h=>h) (fun _ h=>h) (by simp) (fun r hr=>by rw [hβ2]; exact (hg.hβ r (by omega)).symm)
 have hF2':∀ b,F2 b→¬ M b→w'.heap[b]?=w.heap[b]?:=fun b hb hm=>hk.block b ⟨hb,hm⟩
 have hex:∀ {r:Nat} {R:Root} {l:Loc},ρ.length≤r→(ρ0 ++ ext)[r]?=some (some R)→β2 r=some l→(ρ ++ ext)[r]?=some (some R)∧β r=some l∧w'.heap[l.b]?=w.heap[l.b]?:=fun {r R l} h1 h2 h3=>by
  rw [List.getElem?_append_right (by omega)] at h2
  have h4:(ρ ++ ext)[r]?=some (some R):=by rw [List.getElem?_append_right h1,← hl0]; exact h2
  rw [hβ2] at h3
  exact ⟨h4,h3,hF2' _ (.inr ⟨r,R,l,h1,h4,h3,rfl⟩) fun hm=>(hsr.real r R l h4 h3).2.2.2 (hMF _ hm)⟩
 have hin:∀ {r:Nat} {R:Root} {l:Loc},r<ρ.length→(ρ0 ++ ext)[r]?=some (some R)→β2 r=some l→ρ0[r]?=some (some R)∧β' r=some l:=fun {r R l} h1 h2 h3=>by
  rw [List.getElem?_append_left (by omega)] at h2
  rw [hβ2,← hg.hβ r h1] at h3
  exact ⟨h2,h3⟩
 refine ⟨u,v,s',ρ0 ++ ext,I',β2,M',rfl,⟨ρ0,hr,rfl⟩,hk.sub (fun b hb=>⟨.inl hb.1,hb.2⟩),hg2,?_,m1,m2,m3,hd,mv hv⟩
 have hw:∀ b o,cellf w b o≠none→True:=fun _ _ _=>trivial
 constructor
 ·intro r R l h1 h2
  by_cases hr:r<ρ.length
  ·obtain ⟨h3,h4⟩:=hin hr h1 h2
   obtain ⟨a1,a2,a3,a4⟩:=hs.real r R l h3 h4
   exact ⟨a1,a2,a3,fun hb=>a4 (hb.imp .inl id)⟩
  ·obtain ⟨h3,h4,h5⟩:=hex (by omega) h1 h2
   obtain ⟨a1,a2,a3,a4⟩:=hsr.real r R l h3 h4
   refine ⟨a1,Nat.lt_of_lt_of_le a2 hg.hz,fun hi=>(hg.hI2 _ hi).elim a3 (fun h=>by omega),fun hb=>?_⟩
   rcases hb with hb | hb
   ·exact a4 hb
   ·rcases m2 _ hb with h | h
    ·exact a4 (hMF _ h)
    ·omega
 ·intro r R l h1 h2 i hi
  by_cases hr:r<ρ.length
  ·obtain ⟨h3,h4⟩:=hin hr h1 h2
   obtain ⟨b1,b2⟩:=hs.cells r R l h3 h4 i hi
   exact ⟨b1,fun j hj=>by
    obtain ⟨x,h5,h6⟩:=b2 j hj
    exact ⟨x,h5,mv h6⟩⟩
  ·obtain ⟨h3,h4,h5⟩:=hex (by omega) h1 h2
   obtain ⟨b1,b2⟩:=hsr.cells r R l h3 h4 i hi
   exact ⟨b1,fun j hj=>by
    obtain ⟨x,h6,h7⟩:=b2 j hj
    exact ⟨x,by rw [cellf_same h5]; exact h6,hg2.rel h7⟩⟩
 ·intro r R h1 h2
  by_cases hr:r<ρ.length
  ·rw [List.getElem?_append_left (by omega)] at h1
   rw [hβ2,← hg.hβ r hr] at h2
   exact hs.phantom r R h1 h2
  ·have h4:(ρ ++ ext)[r]?=some (some R):=by
    rw [List.getElem?_append_right (by omega)] at h1
    rw [List.getElem?_append_right (by omega),← hl0]; exact h1
   rw [hβ2] at h2
   exact hsr.phantom r R h4 h2
 ·intro r q R S l m h1 h2 h3 h4 he
  by_cases hr:r<ρ.length <;> by_cases hq:q<ρ.length
  ·obtain ⟨a1,a2⟩:=hin hr h1 h3
   obtain ⟨b1,b2⟩:=hin hq h2 h4
   exact hs.inj r q R S l m a1 b1 a2 b2 he
  ·obtain ⟨a1,a2⟩:=hin hr h1 h3
   obtain ⟨b1,b2,_⟩:=hex (by omega) h2 h4
   exact ((hs.real r R l a1 a2).2.2.2 (.inl (.inr ⟨q,S,m,by omega,b1,b2,he.symm⟩))).elim
  ·obtain ⟨a1,a2⟩:=hin hq h2 h4
   obtain ⟨b1,b2,_⟩:=hex (by omega) h1 h3
   exact ((hs.real q S m a1 a2).2.2.2 (.inl (.inr ⟨r,R,l,by omega,b1,b2,he⟩))).elim
  ·obtain ⟨a1,a2,_⟩:=hex (by omega) h1 h3
   obtain ⟨b1,b2,_⟩:=hex (by omega) h2 h4
   exact hsr.inj r q R S l m a1 b1 a2 b2 he
 ·exact hs.ilt
 ·intro b hb
  rcases hb with hb | hb
  ·exact Nat.lt_of_lt_of_le (hsr.flt b hb) hg.hz
  ·exact Γ.lt hd b hb
 ·intro r R l h1 h2 o
  by_cases hr:r<ρ.length
  ·obtain ⟨h3,h4⟩:=hin hr h1 h2
   exact hs.thaw r R l h3 h4 o
  ·obtain ⟨h3,h4,h5⟩:=hex (by omega) h1 h2
   rw [frozen_same h5]; exact hsr.thaw r R l h3 h4 o
 ·intro r R o h1 h2
  by_cases hr:r<ρ.length
  ·rw [List.getElem?_append_left (by omega)] at h1
   obtain ⟨e,l,x,h3,h4,h5⟩:=hs.obs r R o h1 h2
   exact ⟨e,l,x,by rw [hβ2,← hg.hβ r hr]; exact h3,h4,h5.mono fun a v=>mv⟩
  ·have h4:(ρ ++ ext)[r]?=some (some R):=by
    rw [List.getElem?_append_right (by omega)] at h1
    rw [List.getElem?_append_right (by omega),← hl0]; exact h1
   obtain ⟨e,l,x,h5,h6,h7⟩:=hsr.obs r R o h4 h2
   refine ⟨e,l,x,by rw [hβ2]; exact h5,?_,h7.mono fun a v=>hg2.rel⟩
   rw [hF2' _ (.inr ⟨r,R,l,by omega,h4,h5,rfl⟩) fun hm=>(hsr.real r R l h4 h5).2.2.2 (hMF _ hm)]; exact h6
end
end Go.Lg

namespace Go.Lg
open Go.RowKit
variable {P:Program}

def noX:CX:=fun _=>none
theorem noX_sound {Γ:Ghost} {γ:GS→Γ.S}:SoundXH P Γ γ noX:=fun g h hh=>nomatch hh
noncomputable def bodyZ (zf:Bool) (ox:OX) (P:Program) (cs:CSpec) (cx:CX) (ys:YS) (ic:IC) (sp:Nat→Option HSpec) (isp:Nat→Option ISpecR) (f:FuncId) (args:List SV) (X:XS) (q:GS) (K:Nat→List ResultVar→FS→XS→GS→Prop):Prop:=match P.funcs[f]? with
 | some fn=>(match fn.body with
  | some c=>ifP (Nat.ble fn.ntmps 512 && Nat.ble args.length fn.ntmps) (forceNat fn.ntmps fun n=>WH P cs cx ys ic ox sp isp n c 0 X.n zf (fun e t X q=>match e with
   | .normal=>K n fn.results.toList t X q
   | .ret=>K n fn.results.toList t X q
   | _=>False) (frmS n args 0 .nil) X q)
  | none=>False)
 | none=>False
theorem bodyZ_spec {zf:Bool} {ox:OX} (hox:SoundO P ox) {Γ:Ghost} {γ:GS→Γ.S} {cs:CSpec} {cx:CX} {ys:YS} {ic:IC} (hcs:SoundS P cs) (hcx:SoundXH P Γ γ cx) (hys:SoundYH P Γ γ ys) (hic:SoundIH P ic) (hm:P.follows .mixedOrders=true) {sp:Nat→Option HSpec} {isp:Nat→Option ISpecR} {f:FuncId} {args:List SV} {X:XS} {q:GS} {K:Nat→List ResultVar→FS→XS→GS→Prop} (hX:X.n<512) (h:bodyZ zf ox P cs cx ys ic sp isp f args X q K) :
  ∃ fn c,P.funcs[f]?=some fn∧fn.body=some c∧fn.ntmps≤512∧∀ H:HC,H.C.rd=none→H.C.n0=X.den.length→H.C.rg=true→(zf=true→H.C.own)→wpH P H Γ c (fun e s' A' ρ'=>(e=.normal∨e=.ret)∧∃ t X' q',s'=γ q'∧A'=frD fn.ntmps t∧ρ'=X'.den∧X'.n<512∧K fn.ntmps fn.results.toList t X' q') (γ q) (SV.denL args ++ List.replicate (fn.ntmps - (SV.denL args).length) .any) X.den:=by
 unfold bodyZ at h
 split at h
 ·rename_i fn hf
  split at h
  ·rename_i c hb
   obtain ⟨hc,h⟩:=ifP_spec h
   simp only [Bool.and_eq_true,Nat.ble_eq] at hc
   obtain ⟨hn,ha⟩:=hc
   rw [forceNat_eq] at h
   refine ⟨fn,c,hf,hb,hn,fun H _ h0 hrg hz=>?_⟩
   rw [← frmS_den hn args ha]
   refine WH_sound hcs hcx hys hic hm hn hox c hX h H _ (by rw [h0,XS.length]; exact Nat.le_refl _) hrg hz fun e t X q hX hk=>?_
   cases e with
   | normal=>exact ⟨.inl rfl,t,X,q,rfl,rfl,rfl,hX,hk⟩
   | ret=>exact ⟨.inr rfl,t,X,q,rfl,rfl,rfl,hX,hk⟩
   | _=>exact hk.elim
  ·exact h.elim
 ·exact h.elim

noncomputable def bodyH (P:Program) (cs:CSpec) (cx:CX) (ys:YS) (ic:IC) (sp:Nat→Option HSpec) (isp:Nat→Option ISpecR) (f:FuncId) (args:List SV) (X:XS) (q:GS) (K:Nat→List ResultVar→FS→XS→GS→Prop):Prop:=bodyZ false noO P cs cx ys ic sp isp f args X q K
theorem bodyH_spec {Γ:Ghost} {γ:GS→Γ.S} {cs:CSpec} {cx:CX} {ys:YS} {ic:IC} (hcs:SoundS P cs) (hcx:SoundXH P Γ γ cx) (hys:SoundYH P Γ γ ys) (hic:SoundIH P ic) (hm:P.follows .mixedOrders=true) {sp:Nat→Option HSpec} {isp:Nat→Option ISpecR} {f:FuncId} {args:List SV} {X:XS} {q:GS} {K:Nat→List ResultVar→FS→XS→GS→Prop} (hX:X.n<512) (h:bodyH P cs cx ys ic sp isp f args X q K) :
  ∃ fn c,P.funcs[f]?=some fn∧fn.body=some c∧fn.ntmps≤512∧∀ H:HC,H.C.rd=none→H.C.n0=X.den.length→H.C.rg=true→wpH P H Γ c (fun e s' A' ρ'=>(e=.normal∨e=.ret)∧∃ t X' q',s'=γ q'∧A'=frD fn.ntmps t∧ρ'=X'.den∧X'.n<512∧K fn.ntmps fn.results.toList t X' q') (γ q) (SV.denL args ++ List.replicate (fn.ntmps - (SV.denL args).length) .any) X.den:=by
 obtain ⟨fn,c,h1,h2,h3,h4⟩:=bodyZ_spec (zf:=false) noO_sound hcs hcx hys hic hm hX h
 exact ⟨fn,c,h1,h2,h3,fun H a b c=>h4 H a b c (fun e=>nomatch e)⟩

noncomputable def funH (P:Program) (cs:CSpec) (cx:CX) (ic:IC) (sp:Nat→Option HSpec) (isp:Nat→Option ISpecR) (f:FuncId) (args:List SV) (res:SV):Prop :=
 bodyH P cs cx none ic sp isp f args ⟨0,.nil⟩ none fun n rs t X q=>resS P (sev n t) X rs fun vs=>snapP X res (oneS vs) True
abbrev γ0:GS→noGhost.S:=fun _=>()
theorem funH_does {cs:CSpec} {cx:CX} {ic:IC} (hcs:SoundS P cs) (hcx:SoundXH P noGhost γ0 cx) (hic:SoundIH P ic) (hm:P.follows .mixedOrders=true) {sp:Nat→Option HSpec} {isp:Nat→Option ISpecR} {f:FuncId} {args:List SV} {res:SV} (h:funH P cs cx ic sp isp f args res):Does P f false (SV.denL args) res.den:=by
 obtain ⟨fn,c,hf,hb,hn,hw⟩:=bodyH_spec (Γ:=noGhost) (γ:=γ0) (ys:=none) hcs hcx trivial hic hm (by show 0<512; omega) h
 refine DoesH.toDoes (DoesH.of hf hb fun H h1 h2 h3=>wpH_mono (hw H h1 h2 h3) ?_)
 rintro e s A ρ ⟨he,t,X',q',-,rfl,rfl,hX,hk⟩
 obtain ⟨vs,h1,h2⟩:=resS_spec hk
 refine ⟨he,_,_,_,fun _ _ h=>h,h1,?_⟩
 rw [← oneS_den]; exact (snapP_spec _ _ h2).1

noncomputable def itH (P:Program) (cs:CSpec) (cx:CX) (ic:IC) (sp:Nat→Option HSpec) (isp:Nat→Option ISpecR) (gf:FuncId) (fs us:List SV) (N:Nat) (f:Nat→List SV):Prop :=
 bodyH P cs cx (some (N,f)) ic sp isp gf (fs ++ (.yld 0 :: us)) ⟨1,.nil⟩ (some 0) fun n rs t X q=>resS P (sev n t) X rs fun _=>match q with
  | some j=>j=N
  | none=>True
theorem itH_ok {cs:CSpec} {cx:CX} {ic:IC} (hcs:SoundS P cs) {N:Nat} {f:Nat→List SV} (hcx:∀ (Γ:Ghost) (γ:GS→Γ.S),SoundYH P Γ γ (some (N,f))→SoundXH P Γ γ cx) (hic:SoundIH P ic) (hm:P.follows .mixedOrders=true) {sp:Nat→Option HSpec} {isp:Nat→Option ISpecR} {gf:FuncId} {fs us:List SV}
  (h:itH P cs cx ic sp isp gf fs us N f):IterOK P gf (SV.denL fs) (SV.denL us) N fun j=>SV.denL (f j):=by
 refine IterOK.of fun Γ l t e hl hy=>?_
 let γ:GS→Γ.S:=fun q=>match q with
  | some j=>t j
  | none=>e
 have hys:SoundYH P Γ γ (some (N,f)):=⟨l,hl,fun j hj=>(hy j hj).mono fun b s hs=>by rw [hs]; cases b <;> rfl⟩
 have hX:(⟨1,.nil⟩:XS).den=[none]:=rfl
 obtain ⟨fn,c,hf,hb,hn,hw⟩:=bodyH_spec (Γ:=Γ) (γ:=γ) hcs (hcx Γ γ hys) hys hic hm (by show 1<512; omega) h
 have ha:SV.denL (fs ++ (.yld 0 :: us))=SV.denL fs ++ [.yld 0] ++ SV.denL us:=by rw [denL_append]; simp [SV.denL,SV.den]
 rw [ha,hX] at hw
 refine DoesH.of hf hb fun H h1 h2 h3=>wpH_mono (hw H h1 h2 h3) ?_
 rintro x s A ρ ⟨he,t',X',q',rfl,rfl,rfl,hX,hk⟩
 obtain ⟨vs,h1,h2⟩:=resS_spec hk
 refine ⟨he,_,_,_,fun _ _ h=>h,h1,?_⟩
 cases q' with
 | none=>exact .inr rfl
 | some j=>exact .inl (by show t j=t N; rw [h2])

noncomputable def inlF (P:Program) (cs:CSpec) (cx:CX) (ys:YS) (ic:IC) (sp:Nat→Option HSpec) (isp:Nat→Option ISpecR) (g:FuncId) (args:List SV) (X:XS) (q:GS) (k:KVH):Prop :=
 ifP (callable P g) (bodyH P cs cx ys ic sp isp g args X q fun n rs t X q=>resS P (sev n t) X rs fun vs=>k (oneS vs) X q)
theorem inlF_spec {Γ:Ghost} {γ:GS→Γ.S} {cs:CSpec} {cx:CX} {ys:YS} {ic:IC} (hcs:SoundS P cs) (hcx:SoundXH P Γ γ cx) (hys:SoundYH P Γ γ ys) (hic:SoundIH P ic) (hm:P.follows .mixedOrders=true) {sp:Nat→Option HSpec} {isp:Nat→Option ISpecR} {g:FuncId} {args:List SV} {X:XS} {q:GS} {k:KVH} (hX:X.n<512) (h:inlF P cs cx ys ic sp isp g args X q k) :
  callable P g=true∧DoesH P Γ g (SV.denL args) (γ q) X.den fun v s ρ'=>∃ (v':SV) (X':XS) (q':GS),v=v'.den∧s=γ q'∧ρ'=X'.den∧X'.n<512∧k v' X' q':=by
 obtain ⟨hc,h⟩:=ifP_spec h
 refine ⟨hc,?_⟩
 obtain ⟨fn,c,hf,hb,hn,hw⟩:=bodyH_spec (Γ:=Γ) (γ:=γ) hcs hcx hys hic hm hX h
 refine DoesH.of hf hb fun H h1 h2 h3=>wpH_mono (hw H h1 h2 h3) ?_
 rintro x s A ρ ⟨he,t',X',q',rfl,rfl,rfl,hX,hk⟩
 obtain ⟨vs,h1,h2⟩:=resS_spec hk
 exact ⟨he,_,_,_,fun _ _ h=>h,h1,oneS vs,X',q',(oneS_den vs).symm,rfl,rfl,hX,h2⟩
noncomputable def inl (P:Program) (cs:CSpec) (ys:YS) (ic:IC) (g:FuncId) (sp:Nat→Option HSpec) (isp:Nat→Option ISpecR) (cx:CX):CX:=fun g'=>match Nat.beq g' g with
 | true=>some (inlF P cs cx ys ic sp isp g)
 | false=>cx g'
theorem inl_sound {Γ:Ghost} {γ:GS→Γ.S} {cs:CSpec} {cx:CX} {ys:YS} {ic:IC} (hcs:SoundS P cs) (hcx:SoundXH P Γ γ cx) (hys:SoundYH P Γ γ ys) (hic:SoundIH P ic) (hm:P.follows .mixedOrders=true) {sp:Nat→Option HSpec} {isp:Nat→Option ISpecR} {g:FuncId} :
  SoundXH P Γ γ (inl P cs ys ic g sp isp cx):=by
 intro g' h hh args X q k hX hk
 unfold inl at hh
 split at hh
 ·rename_i hb
  obtain rfl:g'=g:=by simpa using hb
  cases hh
  exact inlF_spec hcs hcx hys hic hm hX hk
 ·exact hcx g' h hh args X q k hX hk

structure ICtr where
 f:FuncId
 c:List SV→List SV→(Nat→Nat→(Nat→List SV)→Prop)→Prop
def ICtr.Ok (P:Program) (x:ICtr):Prop:=callable P x.f=true∧∀ fs us k,x.c fs us k→∃ n m f,IterOK P x.f (SV.denL fs) (SV.denL us) n (fun j=>SV.denL (f j))∧(∀ j,j<n→(f j).length=m)∧k n m f
noncomputable def ictrs (l:List ICtr):IC:=fun g fs us k=>List.rec (motive:=fun _=>Prop) False (fun x _ ih=>match Nat.beq x.f g with
 | true=>x.c fs us k
 | false=>ih) l
theorem ictrs_sound {l:List ICtr} (h:∀ x ∈ l,x.Ok P):SoundIH P (ictrs l):=by
 intro g fs us k hk
 induction l with
 | nil=>exact hk.elim
 | cons x l ih =>
  have hk2:(match Nat.beq x.f g with
   | true=>x.c fs us k
   | false=>ictrs l g fs us k):=hk
  split at hk2
  ·rename_i hb
   obtain rfl:x.f=g:=by simpa using hb
   obtain ⟨hc,ho⟩:=h x (by simp)
   exact ⟨hc,ho _ _ _ hk2⟩
  ·exact ih (fun x hx=>h x (by simp [hx])) hk2

mutual
noncomputable def eqD:SV→SV→Prop→Prop
 | .any,v,k=>(match v with
  | .any=>k
  | _=>False)
 | .int K' z',v,k=>(match v with
  | .int K z=>ifP (kindEq K K') (z=z'∧k)
  | _=>False)
 | .dec p' _,v,k=>(match v with
  | .dec p _=>(p↔p')∧k
  | .bool b=>(b=true↔p')∧k
  | _=>False)
 | .bool b',v,k=>(match v with
  | .dec p _=>(p↔b'=true)∧k
  | .bool b=>b=b'∧k
  | _=>False)
 | .val u',v,k=>(match v with
  | .val u=>u=u'∧k
  | _=>False)
 | .ptd ..,_,_=>False
 | .ipd ..,_,_=>False
 | .ptr r' i' j',v,k=>(match v with
  | .ptr r i j=>ifP (Nat.beq r r') (i=i'∧j=j'∧k)
  | _=>False)
 | .sl r' o' n',v,k=>(match v with
  | .sl r o n=>ifP (Nat.beq r r') (o=o'∧n=n'∧k)
  | _=>False)
 | .lst s' n' f',v,k=>(match v with
  | .lst s n f=>ifP (Nat.beq s s') (n=n'∧(∀ i,i<n'→(f i).den=(f' i).den)∧k)
  | _=>False)
 | .agg c',v,k=>(match v with
  | .agg c=>eqDL c' c k
  | _=>False)
 | .ipt c',v,k=>(match v with
  | .ipt c=>eqDL c' c k
  | _=>False)
 | .clo fn' a' b',v,k=>(match fn' with
  | .func g'=>(match v with
   | .clo fn a b=>(match fn with
    | .func g=>ifP (Nat.beq g g') (eqDL a' a (eqDL b' b k))
    | _=>False)
   | _=>False)
  | _=>False)
 | .mp r',v,k=>(match v with
  | .mp r=>ifP (Nat.beq r r') k
  | _=>False)
 | .yld r',v,k=>(match v with
  | .yld r=>ifP (Nat.beq r r') k
  | _=>False)
 | _,_,_=>False
noncomputable def eqDL:List SV→List SV→Prop→Prop
 | [],c,k=>(match c with
  | []=>k
  | _=>False)
 | x' :: xs',c,k=>(match c with
  | x :: xs=>eqD x' x (eqDL xs' xs k)
  | []=>False)
end
mutual
theorem eqD_spec:∀ (v' v:SV) {k:Prop},eqD v' v k→v.den=v'.den∧k
 | .any,v,k,h=>by
  cases v <;> simp only [eqD] at h
  exact ⟨rfl,h⟩
 | .int K' z',v,k,h=>by
  cases v <;> simp only [eqD] at h
  case int K z =>
   obtain ⟨h1,rfl,hk⟩:=ifP_spec h
   have:=kindEq_spec h1
   subst this
   exact ⟨rfl,hk⟩
 | .dec p' i',v,k,h=>by
  cases v <;> simp only [eqD] at h
  case dec p i=>exact ⟨by simp only [SV.den]; congr 2; simp [h.1],h.2⟩
  case bool b=>exact ⟨by simp only [SV.den]; congr 2; have:=h.1; cases b <;> simp_all,h.2⟩
 | .bool b',v,k,h=>by
  cases v <;> simp only [eqD] at h
  case dec p i=>exact ⟨by simp only [SV.den]; congr 2; have:=h.1; cases b' <;> simp_all,h.2⟩
  case bool b =>
   obtain ⟨rfl,hk⟩:=h
   exact ⟨rfl,hk⟩
 | .val u',v,k,h=>by
  cases v <;> simp only [eqD] at h
  case val u =>
   obtain ⟨rfl,hk⟩:=h
   exact ⟨rfl,hk⟩
 | .ptd ..,v,k,h=>by simp [eqD] at h
 | .ipd ..,v,k,h=>by simp [eqD] at h
 | .ptr r' i' j',v,k,h=>by
  cases v <;> simp only [eqD] at h
  case ptr r i j =>
   obtain ⟨h1,rfl,rfl,hk⟩:=ifP_spec h
   obtain rfl:r=r':=Nat.eq_of_beq_eq_true h1
   exact ⟨rfl,hk⟩
 | .sl r' o' n',v,k,h=>by
  cases v <;> simp only [eqD] at h
  case sl r o n =>
   obtain ⟨h1,rfl,rfl,hk⟩:=ifP_spec h
   obtain rfl:r=r':=Nat.eq_of_beq_eq_true h1
   exact ⟨rfl,hk⟩
 | .lst s' n' f',v,k,h=>by
  cases v <;> simp only [eqD] at h
  case lst s n f =>
   obtain ⟨h1,rfl,h2,hk⟩:=ifP_spec h
   obtain rfl:s=s':=Nat.eq_of_beq_eq_true h1
   refine ⟨?_,hk⟩
   simp only [SV.den]; congr 1
   exact List.map_congr_left fun i hi=>h2 i (by simpa using hi)
 | .agg c',v,k,h=>by
  cases v <;> simp only [eqD] at h
  case agg c =>
   obtain ⟨h1,hk⟩:=eqDL_spec c' c h
   exact ⟨by simp only [SV.den,h1],hk⟩
 | .ipt c',v,k,h=>by
  cases v <;> simp only [eqD] at h
  case ipt c =>
   obtain ⟨h1,hk⟩:=eqDL_spec c' c h
   exact ⟨by simp only [SV.den,h1],hk⟩
 | .clo fn' a' b',v,k,h=>by
  simp only [eqD] at h
  split at h
  ·split at h
   ·split at h
    ·rename_i g
     obtain ⟨h1,q1⟩:=ifP_spec h
     obtain rfl:g=_:=Nat.eq_of_beq_eq_true h1
     obtain ⟨h2,q2⟩:=eqDL_spec a' _ q1
     obtain ⟨h3,q3⟩:=eqDL_spec b' _ q2
     exact ⟨by simp only [SV.den,h2,h3],q3⟩
    ·exact h.elim
   ·exact h.elim
  ·exact h.elim
 | .mp r',v,k,h=>by
  cases v <;> simp only [eqD] at h
  case mp r =>
   obtain ⟨h1,hk⟩:=ifP_spec h
   obtain rfl:r=r':=Nat.eq_of_beq_eq_true h1
   exact ⟨rfl,hk⟩
 | .yld r',v,k,h=>by
  cases v <;> simp only [eqD] at h
  case yld r =>
   obtain ⟨h1,hk⟩:=ifP_spec h
   obtain rfl:r=r':=Nat.eq_of_beq_eq_true h1
   exact ⟨rfl,hk⟩
 | .sub ..,v,k,h=>by simp [eqD] at h
 | .tup _,v,k,h=>by simp [eqD] at h
 | .ifc ..,v,k,h=>by simp [eqD] at h
theorem eqDL_spec:∀ (c' c:List SV) {k:Prop},eqDL c' c k→SV.denL c=SV.denL c'∧k
 | [],c,k,h=>by
  cases c with
  | nil=>exact ⟨rfl,by simpa [eqDL] using h⟩
  | cons x c=>simp [eqDL] at h
 | x' :: xs',c,k,h=>by
  cases c with
  | nil=>simp [eqDL] at h
  | cons x xs =>
   simp only [eqDL] at h
   obtain ⟨h1,h⟩:=eqD_spec x' x h
   obtain ⟨h3,h⟩:=eqDL_spec xs' xs h
   exact ⟨by simp only [SV.denL,h1,h3],h⟩
end
noncomputable def rowEq (S R:Option SRow) (k:Prop):Prop:=match S with
 | none=>(match R with
  | none=>k
  | some _=>False)
 | some S=>(match R with
  | none=>False
  | some R=>ifP (Nat.beq S.sz R.sz) (match S.var && R.var with
   | true=>(match Nat.beq S.n 0 with
    | true=>ifP (Nat.beq R.n 0) (mapP (S.f 0) (R.f 0) k)
    | false=>ifP (Nat.beq R.n 1 && Nat.beq S.n 1) (eqD (S.f 0) (R.f 0) k))
   | false=>ifP (noMap S && noMap R) (S.n=R.n∧(∀ i,i<S.n→(R.f i).den=(S.f i).den)∧k)))
theorem rowEq_spec {S R:Option SRow} {k:Prop} (h:rowEq S R k):denR R=denR S∧k:=by
 unfold rowEq at h
 split at h
 ·split at h
  ·exact ⟨rfl,h⟩
  ·exact h.elim
 ·rename_i S
  split at h
  ·exact h.elim
  ·rename_i R
   obtain ⟨h1,h⟩:=ifP_spec h
   have h1:S.sz=R.sz:=by simpa using h1
   have fin:S.obj=none→R.obj=none→S.n=R.n→(∀ i,i<S.n→(R.f i).den=(S.f i).den)→denR (some R)=denR (some S):=fun o1 o2 h2 h3=>by
    simp only [denR,Option.map_some,SRow.den,SRow.els,h1,h2,o1,o2]
    congr 2
    exact List.map_congr_left fun i hi=>h3 i (by rw [h2]; simpa using hi)
   split at h
   ·rename_i hv
    simp only [Bool.and_eq_true] at hv
    split at h
    ·rename_i hS0
     have hS0:=Nat.eq_of_beq_eq_true hS0
     obtain ⟨hR0,h⟩:=ifP_spec h
     have hR0:=Nat.eq_of_beq_eq_true hR0
     obtain ⟨⟨o,o1,o2,o3⟩,h⟩:=mapP_spec (nr:=0) h
     have oS:S.obj=some o:=by unfold SRow.obj; rw [hv.1,hS0]; exact o1
     have oR:R.obj=some o:=by unfold SRow.obj; rw [hv.2,hR0]; exact o2
     refine ⟨?_,h⟩
     simp [denR,SRow.den,SRow.els,h1,hS0,hR0,oS,oR]
    ·obtain ⟨h2,h⟩:=ifP_spec h
     simp only [Bool.and_eq_true,Nat.beq_eq] at h2
     obtain ⟨h3,h⟩:=eqD_spec _ _ h
     exact ⟨fin (SRow.obj_n (by omega)) (SRow.obj_n (by omega)) (by omega) fun i hi=>by
      have:i=0:=by omega
      subst this; exact h3,h⟩
   ·obtain ⟨h0,h⟩:=ifP_spec h
    simp only [Bool.and_eq_true] at h0
    exact ⟨fin (noMap_spec h0.1) (noMap_spec h0.2) h.1 h.2.1,h.2.2⟩
noncomputable def rowsEq (X0 X:XS) (m:Nat) (k:Prop):Prop:=Nat.rec (motive:=fun _=>Prop→Prop) (fun k=>k) (fun r ih k=>ih (rowEq (X0.row r) (X.row r) k)) m k
theorem rowsEq_spec {X0 X:XS}:∀ {m:Nat} {k:Prop},rowsEq X0 X m k→(∀ r,r<m→denR (X.row r)=denR (X0.row r))∧k
 | 0,k,h=>⟨fun r hr=>by omega,h⟩
 | m+1,k,h=>by
  have h:rowsEq X0 X m (rowEq (X0.row m) (X.row m) k):=h
  obtain ⟨h1,h⟩:=rowsEq_spec h
  obtain ⟨h2,h⟩:=rowEq_spec h
  exact ⟨fun r hr=>by
   rcases Nat.lt_succ_iff_lt_or_eq.1 hr with h | rfl
   ·exact h1 r h
   ·exact h2,h⟩
theorem prefix_den {X0 X:XS} (hn:X0.n≤X.n) (h:∀ r,r<X0.n→denR (X.row r)=denR (X0.row r)):X.den=X0.den ++ X.den.drop X0.n:=by
 have e:X.den.take X0.n=X0.den:=by
  apply List.ext_getElem?
  intro r
  by_cases hr:r<X0.n
  ·rw [List.getElem?_take_of_lt hr,row_at (by omega),row_at hr,h r hr]
  ·rw [List.getElem?_eq_none (by rw [List.length_take,XS.length]; omega),List.getElem?_eq_none (by rw [XS.length]; omega)]
 rw [← e]
 have:(X.den.take X0.n).length=X0.n:=by rw [List.length_take,XS.length]; omega
 rw [e]
 conv=>lhs; rw [← List.take_append_drop X0.n X.den,e]
noncomputable def belRw (nr:Nat) (R:Option SRow) (k:Prop):Prop:=match R with
 | none=>k
 | some R=>(match R.var with
  | true=>(match Nat.beq R.n 0 with
   | true=>pureS (R.f 0)∧k
   | false=>ifP (Nat.beq R.n 1) (belV nr (R.f 0) k))
  | false=>(∀ i,i<R.n→belV nr (R.f i) True)∧k)
theorem bel_map {nr:Nat} {s:SV} (h:pureS s):BelQ nr (mapOb s):=by
 unfold mapOb
 split
 ·rename_i z c g
  intro x hx
  obtain ⟨i,hi,rfl⟩:=List.mem_map.1 hx
  have h:∀ i,i<c→pureS (g i):=by simpa [pureS] using h
  exact valA_bel (pureS_spec _ (h i (List.mem_range.1 hi)))
 ·trivial
theorem belRw_spec {nr:Nat} {R:Option SRow} {k:Prop} (h:belRw nr R k):(∀ S,denR R=some S→BelL nr S.els∧BelQ nr S.ob)∧k:=by
 unfold belRw at h
 have mk:∀ (l:List AV),(∀ i,i<l.length→Bel nr (l.getD i .any))→BelL nr l:=by
  intro l h a ha
  obtain ⟨i,hi,rfl⟩:=List.getElem_of_mem ha
  have:=h i hi
  simpa [List.getD,hi] using this
 split at h
 ·exact ⟨(fun S h=>nomatch h),h⟩
 ·rename_i R
  have fin:BelQ nr R.obj→(∀ i,i<R.n→Bel nr (R.f i).den)→∀ S,denR (some R)=some S→BelL nr S.els∧BelQ nr S.ob:=by
   intro h0 h S hS
   simp only [denR,Option.map_some,Option.some.injEq] at hS
   subst hS
   refine ⟨mk _ fun i hi=>?_,h0⟩
   have hi:i<R.n:=by rw [← els_length]; exact hi
   show Bel nr (R.els.getD i .any)
   rw [els_get hi]; exact h i hi
  split at h
  ·rename_i hv
   split at h
   ·rename_i h0
    have h0:=Nat.eq_of_beq_eq_true h0
    refine ⟨fin ?_ (fun i hi=>by omega),h.2⟩
    unfold SRow.obj
    rw [hv,h0]; exact bel_map h.1
   ·obtain ⟨h1,h⟩:=ifP_spec h
    have h1:R.n=1:=by simpa using h1
    obtain ⟨h2,h⟩:=belV_spec _ h
    exact ⟨fin (by rw [SRow.obj_n (by omega)]; trivial) fun i hi=>by
     have:i=0:=by omega
     subst this; exact h2,h⟩
  ·rename_i hv
   exact ⟨fin (by rw [SRow.obj_f hv]; trivial) fun i hi=>(belV_spec _ (h.1 i hi)).1,h.2⟩
noncomputable def belXS (X:XS) (m:Nat) (k:Prop):Prop:=Nat.rec (motive:=fun _=>Prop→Prop) (fun k=>k) (fun r ih k=>ih (belRw X.n (X.row r) k)) m k
theorem belXS_spec {X:XS}:∀ {m:Nat} {k:Prop},belXS X m k→(∀ r,r<m→∀ S,denR (X.row r)=some S→BelL X.n S.els∧BelQ X.n S.ob)∧k
 | 0,k,h=>⟨fun r hr=>by omega,h⟩
 | m+1,k,h=>by
  have h:belXS X m (belRw X.n (X.row m) k):=h
  obtain ⟨h1,h⟩:=belXS_spec h
  obtain ⟨h2,h⟩:=belRw_spec h
  exact ⟨fun r hr=>by
   rcases Nat.lt_succ_iff_lt_or_eq.1 hr with h | rfl
   ·exact h1 r h
   ·exact h2,h⟩
theorem BelS.of {n:Nat}:∀ {ρ:Store},(∀ (r:Nat) (R:Root),ρ[r]?=some (some R)→BelL n R.els∧BelQ n R.ob)→BelS n ρ
 | [],_=>trivial
 | none :: r,h=>BelS.of (ρ:=r) fun i R hi=>h (i+1) R (by simpa using hi)
 | some R :: r,h=>⟨h 0 R (by simp),BelS.of (ρ:=r) fun i R hi=>h (i+1) R (by simpa using hi)⟩
theorem belX_BelS {X:XS} {k:Prop} (h:belXS X X.n k):BelS X.den.length X.den∧k:=by
 obtain ⟨h1,h2⟩:=belXS_spec h
 refine ⟨BelS.of fun r R hr=>?_,h2⟩
 have hlt:r<X.n:=by
  have:=(List.getElem?_eq_some_iff.1 hr).1
  rwa [XS.length] at this
 rw [row_at hlt] at hr
 rw [XS.length]
 exact h1 r hlt R (by simpa using hr)

end Go.Lg

namespace Go.Lg
noncomputable def mkF (n : Nat) (l : List (Nat × SV)) : FS := List.rec (motive := fun _ => FS) .nil (fun p _ ih => sset n ih p.1 p.2) l
noncomputable def mkX (l : List (Option SRow)) : XS := List.rec (motive := fun _ => XS → XS) (fun X => X) (fun x _ ih X => ih (X.push x)) l ⟨0, .nil⟩
abbrev i6 (z : Int) : SV := .int .i64 z
def vr (sz : Nat) (v : SV) : Option SRow := some ⟨sz, 1, fun _ => v, true⟩
def rw' (sz n : Nat) (f : Nat → SV) : Option SRow := some ⟨sz, n, f, false⟩
noncomputable def natH (inv : Nat → Prop) (μ : Nat → Nat) (nr : Nat) (t : Nat → FS) (X : Nat → XS) (q : Nat → GS) : HSpec :=
  { toLSpec := { σ := Nat, inv := inv, μ := μ, nr := nr, ms := fun _ _ => [], t := t, X := X, rd := fun _ _ k => ∃ z, k z, rdOK := fun _ _ _ h => h }, q := q }
noncomputable def appH2 (n s1 s2 : Nat) (inv : Nat → Prop) (μ : Nat → Nat) (B nr : Nat) (t : Nat → FS) (X : Nat → XS) : HSpec :=
  { toLSpec := { σ := Nat, inv := inv, μ := μ, nr := nr, t := t, X := X, rd := fun _ _ k => ∃ z, k z, rdOK := fun _ _ _ h => h, peel := some B,
                 ms := fun t _ => match sget n t s1, sget n t s2 with
                   | .sl r _ _, .sl q _ _ => [some r, some q]
                   | _, _ => [] } }
noncomputable def appH1 (n s1 : Nat) (inv : Nat → Prop) (μ : Nat → Nat) (B nr : Nat) (t : Nat → FS) (X : Nat → XS) : HSpec :=
  { toLSpec := { σ := Nat, inv := inv, μ := μ, nr := nr, t := t, X := X, rd := fun _ _ k => ∃ z, k z, rdOK := fun _ _ _ h => h, peel := some B,
                 ms := fun t _ => match sget n t s1 with
                   | .sl r _ _ => [some r]
                   | _ => [] } }
noncomputable def unrH (k : Nat) : HSpec :=
  { toLSpec := { σ := Unit, inv := fun _ => True, μ := fun _ => 0, nr := 0, ms := fun _ _ => [], t := fun _ => .nil, X := fun _ => ⟨0, .nil⟩, rd := fun _ _ k => k (), rdOK := fun _ _ _ h => ⟨(), h⟩ }, unr := k }
noncomputable def itS (nr : Nat) (inv : Nat → Prop) (t : FS) (X : Nat → XS) (q : Nat → GS) : ISpecR := { τ := Unit, rdt := fun _ _ k => k (), rdtOK := fun _ _ _ h => ⟨(), h⟩, s := fun _ => {
  σ := Nat
  inv := fun j z => z = j ∧ inv j
  nr := nr
  ms := fun _ _ => []
  t := t
  X := X
  q := fun j _ => q j
  rd := fun _ _ k => ∃ z, k z
  rdOK := fun _ _ _ h => h } }
def oneL {α : Type 1} (i : Nat) (s : α) : Nat → Option α := fun j => match Nat.beq j i with
  | true => some s
  | false => none
def twoL {α : Type 1} (i : Nat) (s : α) (r : Nat → Option α) : Nat → Option α := fun j => match Nat.beq j i with
  | true => some s
  | false => r j
def noL {α : Type 1} : Nat → Option α := fun _ => none
def cells' : SV → List SV
  | .agg c => c
  | .ipt c => c
  | _ => []
def nth' : List SV → Nat → SV
  | [], _ => .any
  | x :: _, 0 => x
  | _ :: xs, i + 1 => nth' xs i
end Go.Lg

namespace Go.Lg
open Go.RowKit
variable {P:Program}

inductive RowA:AV→Prop
 | any:RowA .any
 | sc (v:Value):RowA (.sc v)
 | sl (r o n:Nat):RowA (.sl r o n)
 | agg (c:List AV) (h:∀ j,j<c.length→RowA (c.getD j .any)):RowA (.agg c)
 | tup (c:List AV) (h:∀ j,j<c.length→RowA (c.getD j .any)):RowA (.tup c)
inductive FlatA:AV→Prop
 | any:FlatA .any
 | sc (v:Value):FlatA (.sc v)
 | isl (sz:Nat) (L:List AV) (h:∀ i,i<L.length→∀ j,j<sz→∃ v,(L.getD i .any).cells.getD j .any=.sc v):FlatA (.isl sz L)
 | agg (c:List AV) (h:∀ j,j<c.length→FlatA (c.getD j .any)):FlatA (.agg c)
 | tup (c:List AV) (h:∀ j,j<c.length→FlatA (c.getD j .any)):FlatA (.tup c)
theorem RowA.pure {a:AV} (h:RowA a) (hp:Pure a) {c I I' N β v} (hv:Rel c I N β a v):Rel c I' 0 noβ a v:=by
 induction h generalizing v with
 | any=>exact .any v
 | sc u=>cases hv; exact .sc _
 | sl r o n=>cases hp
 | agg cs h ih =>
  cases hp with
  | agg _ hp =>
   cases hv with
   | agg _ vs hn hv=>exact .agg _ _ hn fun j hj=>ih j hj (hp j hj) (hv j hj)
 | tup cs h ih =>
  cases hp with
  | tup _ hp =>
   cases hv with
   | tup _ vs hn hv=>exact .tup _ _ hn fun j hj=>ih j hj (hp j hj) (hv j hj)
theorem SnapP.relN {D ρ a a' w F I β v} (h:SnapP D ρ a a') (hr:RowA a) (hq:FlatA a') (hs:SR w F I β ρ) (hv:Rel (cellf w) I ρ.length β a v):Rel (cellf w) (withLiveP D (fun _=>False) β ρ) 0 noβ a' v:=by
 induction h generalizing v with
 | pure a hp=>exact hr.pure hp hv
 | nil sz=>cases hv; exact .islz sz none
 | sl r o n R L hR ho hL hz h hm ih =>
  cases hq with
  | isl _ _ hq =>
  rcases hv.sl_inv with ⟨cap,l,hr,hl,hn,hc,rfl⟩ | ⟨rfl,aa,rfl,_⟩
  ·have esz:=(hs.real r R l hR hl).1
   have key:∀ i,i<n→∀ j,j<R.sz→∃ u,cellf w l.b (l.off+o*l.sz+i*R.sz+j)=some u∧Rel (cellf w) (withLiveP D (fun _=>False) β ρ) 0 noβ ((L.getD i .any).cells.getD j .any) u:=by
    intro i hi j hj
    obtain ⟨_,hcc⟩:=hs.cells r R l hR hl (o+i) (by omega)
    obtain ⟨u,h1,h2⟩:=hcc j hj
    refine ⟨u,?_,?_⟩
    ·rw [esz,show l.off+o*R.sz+i*R.sz+j=l.off+(o+i)*R.sz+j by rw [Nat.add_mul]; omega]; exact h1
    ·obtain ⟨x,hx⟩:=hq i (by omega) j hj
     have hc:=h i hi j hj
     rw [hx] at hc ⊢
     generalize ((R.els.getD (o+i) .any).cells.getD j .any)=y at hc h2
     cases hc with
     | pure _ _=>cases h2; exact .sc _
   subst hL
   refine .isl R.sz L l.b _ cap (fun i j=>(cellf w l.b (l.off+o*l.sz+i*R.sz+j)).getD undef) (.inr ⟨r,R,l,hm,hR,hl,rfl⟩) hn hz (fun i hi j hj=>?_) (fun i hi j hj=>?_)
   ·obtain ⟨u,h1,_⟩:=key i hi j hj
    simp [h1]
   ·obtain ⟨u,h1,h2⟩:=key i hi j hj
    simpa [h1] using h2
  ·have:L=[]:=List.eq_nil_of_length_eq_zero hL
   subst this; exact .islz _ _
 | ptr r i j R cs hR hi hl h hm ih=>cases hr
 | sub r i j sz n R L hR hi hl hL hz h hm ih=>cases hr
 | agg c c' hl h ih =>
  cases hv with
  | agg _ vs hn hv =>
   cases hr with
   | agg _ hr =>
    cases hq with
    | agg _ hq=>exact .agg _ _ (by omega) (fun j hj=>ih j (by omega) (hr j (by omega)) (hq j hj) (hv j (by omega)))
 | tup c c' hl h ih =>
  cases hv with
  | tup _ vs hn hv =>
   cases hr with
   | tup _ hr =>
    cases hq with
    | tup _ hq=>exact .tup _ _ (by omega) (fun j hj=>ih j (by omega) (hr j (by omega)) (hq j hj) (hv j (by omega)))
 | clo fn fs fs' cs cs' hl h hl' h' ih ih'=>cases hr
 | ifc t a a' h ih=>cases hr
theorem DoesH.toDoesN {f args res} (h:DoesH P noGhost f args () [] (fun a s r=>SnapN 0 r a res∧RowA a)) (hq:FlatA res):Does P f true args res:=by
 intro w I vals hI hrel
 have hsr:SR w (fun b=>b<w.heap.size) I noβ []:=⟨fun r R l h=>by simp at h,fun r R l h=>by simp at h,fun r R h=>by simp at h,fun r s R S l m h=>by simp at h,hI,fun b hb=>hb,fun r R l h=>by simp at h,fun r R o h=>by simp at h⟩
 refine (h w _ I (fun _=>False) noβ vals hsr (fun b hb=>hb.elim) (fun b hb=>.inr fun h=>h) (fun b hb=>hb) (fun l hl=>by cases hl) hrel).mono ?_
 rintro e w' ⟨u,a,s,r,I',β',M',rfl,⟨hs,hrow⟩,hk,hg,hs',m1,m2,m3,hd,hr⟩
 refine ⟨u,withLiveP (fun r=>0≤r) (fun _=>False) β' r,rfl,hk.sub (fun b hb=>⟨hb,fun h=>h⟩),fun b hb=>?_,fun b hb=>?_,SnapP.relN hs hrow hq hs' hr⟩
 ·rcases hb with hb | ⟨r,R,l,_,h1,h2,rfl⟩
  ·exact hb.elim
  ·exact (hs'.real r R l h1 h2).2.1
 ·rcases hb with hb | ⟨r,R,l,_,h1,h2,rfl⟩
  ·exact hb.elim
  ·exact .inr (Nat.le_of_not_lt (fun hlt=>(hs'.real r R l h1 h2).2.2.2 (.inl hlt)))
mutual
def rowS:SV→Prop→Prop
 | .any,k=>k
 | .int ..,k=>k
 | .dec ..,k=>k
 | .bool _,k=>k
 | .val _,k=>k
 | .sl ..,k=>k
 | .agg c,k=>rowSL c k
 | .tup c,k=>rowSL c k
 | _,_=>False
def rowSL:List SV→Prop→Prop
 | [],k=>k
 | x :: xs,k=>rowS x (rowSL xs k)
end
mutual
theorem rowS_spec:∀ (v:SV) {k:Prop},rowS v k→RowA v.den∧k
 | .any,k,h=>⟨.any,by simpa only [rowS] using h⟩
 | .int ..,k,h=>⟨.sc _,by simpa only [rowS] using h⟩
 | .dec ..,k,h=>⟨.sc _,by simpa only [rowS] using h⟩
 | .bool _,k,h=>⟨.sc _,by simpa only [rowS] using h⟩
 | .val _,k,h=>⟨.sc _,by simpa only [rowS] using h⟩
 | .sl ..,k,h=>⟨.sl ..,by simpa only [rowS] using h⟩
 | .agg c,k,h=>by
  obtain ⟨h1,h2⟩:=rowSL_spec c (by simpa only [rowS] using h)
  exact ⟨.agg _ h1,h2⟩
 | .tup c,k,h=>by
  obtain ⟨h1,h2⟩:=rowSL_spec c (by simpa only [rowS] using h)
  exact ⟨.tup _ h1,h2⟩
 | .ptr ..,k,h=>by simp [rowS] at h
 | .ptd ..,k,h=>by simp [rowS] at h
 | .ipd ..,k,h=>by simp [rowS] at h
 | .sub ..,k,h=>by simp [rowS] at h
 | .lst ..,k,h=>by simp [rowS] at h
 | .ipt ..,k,h=>by simp [rowS] at h
 | .clo ..,k,h=>by simp [rowS] at h
 | .yld ..,k,h=>by simp [rowS] at h
 | .mp ..,k,h=>by simp [rowS] at h
 | .ifc ..,k,h=>by simp [rowS] at h
theorem rowSL_spec:∀ (c:List SV) {k:Prop},rowSL c k→(∀ j,j<(SV.denL c).length→RowA ((SV.denL c).getD j .any))∧k
 | [],k,h=>⟨fun j hj=>by simp [SV.denL] at hj,by simpa only [rowSL] using h⟩
 | x :: xs,k,h=>by
  obtain ⟨h1,h⟩:=rowS_spec x (by simpa only [rowSL] using h)
  obtain ⟨h2,h⟩:=rowSL_spec xs h
  refine ⟨fun j hj=>?_,h⟩
  cases j with
  | zero=>exact h1
  | succ j=>exact h2 j (by simpa [SV.denL] using hj)
end
def scS:SV→Bool
 | .int ..=>true
 | .dec ..=>true
 | .bool _=>true
 | .val _=>true
 | _=>false
mutual
def flatS:SV→Prop
 | .any=>True
 | .int ..=>True
 | .dec ..=>True
 | .bool _=>True
 | .val _=>True
 | .lst sz n f=>∀ i,i<n→(f i).cells.length=sz∧(f i).cells.all scS=true
 | .agg c=>flatSL c
 | .tup c=>flatSL c
 | _=>False
def flatSL:List SV→Prop
 | []=>True
 | x :: xs=>flatS x∧flatSL xs
end
theorem scS_den {v:SV} (h:scS v=true):∃ u,v.den=.sc u:=by
 cases v <;> first | exact ⟨_,rfl⟩ | (simp [scS] at h)
mutual
theorem flatS_spec:∀ (v:SV),flatS v→FlatA v.den
 | .any,_=>.any
 | .int ..,_=>.sc _
 | .dec ..,_=>.sc _
 | .bool _,_=>.sc _
 | .val _,_=>.sc _
 | .lst sz n f,h=>by
  refine .isl _ _ fun i hi j hj=>?_
  simp at hi
  obtain ⟨h1,h2⟩:=h i hi
  have g:((List.range n).map fun i=>(f i).den).getD i .any=(f i).den:=by simp [List.getD,hi]
  rw [g,den_cells,denL_eq]
  have hj':j<(f i).cells.length:=by omega
  simp only [List.getD,List.getElem?_map]
  rw [List.getElem?_eq_getElem hj']
  exact scS_den (List.all_eq_true.1 h2 _ (List.getElem_mem hj'))
 | .agg c,h=>.agg _ (flatSL_spec c (by simpa only [flatS] using h))
 | .tup c,h=>.tup _ (flatSL_spec c (by simpa only [flatS] using h))
 | .ptr ..,h=>by simp [flatS] at h
 | .ptd ..,h=>by simp [flatS] at h
 | .ipd ..,h=>by simp [flatS] at h
 | .sub ..,h=>by simp [flatS] at h
 | .sl ..,h=>by simp [flatS] at h
 | .ipt ..,h=>by simp [flatS] at h
 | .clo ..,h=>by simp [flatS] at h
 | .yld ..,h=>by simp [flatS] at h
 | .mp ..,h=>by simp [flatS] at h
 | .ifc ..,h=>by simp [flatS] at h
theorem flatSL_spec:∀ (c:List SV),flatSL c→∀ j,j<(SV.denL c).length→FlatA ((SV.denL c).getD j .any)
 | [],_=>fun j hj=>by simp [SV.denL] at hj
 | x :: xs,h=>fun j hj=>by
  have h:flatS x∧flatSL xs:=by simpa only [flatSL] using h
  cases j with
  | zero=>exact flatS_spec x h.1
  | succ j=>exact flatSL_spec xs h.2 j (by simpa [SV.denL] using hj)
end
noncomputable def funN (P:Program) (cs:CSpec) (cx:CX) (ic:IC) (sp:Nat→Option HSpec) (isp:Nat→Option ISpecR) (f:FuncId) (args:List SV) (res:SV):Prop :=
 bodyH P cs cx none ic sp isp f args ⟨0,.nil⟩ none fun n rs t X q=>resS P (sev n t) X rs fun vs=>rowS (oneS vs) (snapP X res (oneS vs) True)
theorem funN_does {cs:CSpec} {cx:CX} {ic:IC} (hcs:SoundS P cs) (hcx:SoundXH P noGhost γ0 cx) (hic:SoundIH P ic) (hm:P.follows .mixedOrders=true) {sp:Nat→Option HSpec} {isp:Nat→Option ISpecR} {f:FuncId} {args:List SV} {res:SV} (h:funN P cs cx ic sp isp f args res) (hq:flatS res):Does P f true (SV.denL args) res.den:=by
 obtain ⟨fn,c,hf,hb,hn,hw⟩:=bodyH_spec (Γ:=noGhost) (γ:=γ0) (ys:=none) hcs hcx trivial hic hm (by show 0<512; omega) h
 refine DoesH.toDoesN (DoesH.of hf hb fun H h1 h2 h3=>wpH_mono (hw H h1 h2 h3) ?_) (flatS_spec _ hq)
 rintro e s A ρ ⟨he,t,X',q',-,rfl,rfl,hX,hk⟩
 obtain ⟨vs,h1,h2⟩:=resS_spec hk
 obtain ⟨h3,h4⟩:=rowS_spec _ h2
 refine ⟨he,_,_,_,fun _ _ h=>h,h1,?_,?_⟩
 ·rw [← oneS_den]; exact (snapP_spec _ _ h4).1
 ·rw [← oneS_den]; exact h3
end Go.Lg

namespace Go.Lg
open Go.RowKit
variable {P:Program}

end Go.Lg

namespace Go.Lg
open Go.RowKit
variable {P:Program}

theorem DoesH.ghost {Γ:Ghost} {s:Γ.S} {ρ:Store} {f args} {R:AV→Store→Prop} (h:DoesH P noGhost f args () ρ fun v _ ρ'=>R v ρ') :
  DoesH P Γ f args s ρ fun v s' ρ'=>R v ρ'∧s'=s:=by
 intro w F I M β vals hsr hMF hIJ hD hst hrel
 refine (h w F I (fun _=>False) β vals hsr (fun b hb=>hb.elim) (fun b hb=>.inr fun h=>h) (fun b hb=>hb) (fun l hl=>by cases hl) hrel).mono ?_
 rintro e w' ⟨u,v,s',ρ',I',β',M',rfl,hR,hk,hg,hs',m1,m2,m3,hd,hr⟩
 have hkF:Keeps F w w':=hk.sub fun b hb=>⟨hb,fun h=>h⟩
 have hFM:∀ b,F b∨M b→F b:=fun b hb=>hb.elim id (hMF b)
 refine ⟨u,v,s,ρ',I',β',M,rfl,⟨hR,rfl⟩,hkF.sub fun b hb=>hb.1,hg,hs'.foreign (fun b hb=>hs'.flt b (.inl (hFM b hb))) (fun r R l h1 h2 hb=>(hs'.real r R l h1 h2).2.2.2 (.inl (hFM _ hb))),
  fun b hb=>hb,fun b hb=>.inl hb,fun b hb=>?_,Γ.keep hD (hkF.sub hMF) hg.hs,hr⟩
 rcases hg.hI2 b hb with h1 | h1
 ·exact hIJ b h1
 ·exact .inr fun hm=>by have:=Γ.lt hD b hm; omega
theorem plainS_any:∀ (x:SV) {c I N β c' I' N' β'} {v:Value},plainS x→Rel c I N β x.den v→Rel c' I' N' β' x.den v
 | .any,_,_,_,_,_,_,_,_,v,_,h=>.any v
 | .int K z,_,_,_,_,_,_,_,_,v,_,h=>by cases h; exact .sc _
 | .dec p i,_,_,_,_,_,_,_,_,v,_,h=>by cases h; exact .sc _
 | .bool b,_,_,_,_,_,_,_,_,v,_,h=>by cases h; exact .sc _
 | .val u,_,_,_,_,_,_,_,_,v,_,h=>by cases h; exact .sc _
 | .agg l,_,_,_,_,_,_,_,_,v,hp,h=>by
  have hp:plainS.plainL l:=by simpa [plainS] using hp
  cases h with
  | agg _ vs hn h1=>exact .agg _ _ hn (relL l hp h1)
 | .tup l,_,_,_,_,_,_,_,_,v,hp,h=>by
  have hp:plainS.plainL l:=by simpa [plainS] using hp
  cases h with
  | tup _ vs hn h1=>exact .tup _ _ hn (relL l hp h1)
 | .lst ..,_,_,_,_,_,_,_,_,v,hp,_=>by simp [plainS] at hp
 | .ipt _,_,_,_,_,_,_,_,_,v,hp,_=>by simp [plainS] at hp
 | .ptr ..,_,_,_,_,_,_,_,_,v,hp,_=>by simp [plainS] at hp
 | .ptd ..,_,_,_,_,_,_,_,_,v,hp,_=>by simp [plainS] at hp
 | .ipd ..,_,_,_,_,_,_,_,_,v,hp,_=>by simp [plainS] at hp
 | .sl ..,_,_,_,_,_,_,_,_,v,hp,_=>by simp [plainS] at hp
 | .sub ..,_,_,_,_,_,_,_,_,v,hp,_=>by simp [plainS] at hp
 | .clo ..,_,_,_,_,_,_,_,_,v,hp,_=>by simp [plainS] at hp
 | .yld _,_,_,_,_,_,_,_,_,v,hp,_=>by simp [plainS] at hp
 | .mp _,_,_,_,_,_,_,_,_,v,hp,_=>by simp [plainS] at hp
 | .ifc ..,_,_,_,_,_,_,_,_,v,hp,_=>by simp [plainS] at hp
where relL:∀ (l:List SV),plainS.plainL l→∀ {c I N β c' I' N' β'} {f:Nat→Value},(∀ j,j<(SV.denL l).length→Rel c I N β ((SV.denL l).getD j .any) (f j))→∀ j,j<(SV.denL l).length→Rel c' I' N' β' ((SV.denL l).getD j .any) (f j)
 | [],_,_,_,_,_,_,_,_,_,f,h,j,hj=>by simp [SV.denL] at hj
 | x :: xs,hp,_,_,_,_,_,_,_,_,f,h,j,hj=>by
  have hp:plainS x∧plainS.plainL xs:=by simpa [plainS.plainL] using hp
  cases j with
  | zero=>exact plainS_any x hp.1 (h 0 hj)
  | succ j=>exact relL xs hp.2 (f:=fun j=>f (j+1)) (fun j hj=>h (j+1) (by simpa [SV.denL] using hj)) j (by simpa [SV.denL] using hj)
theorem plainS_cells {x:SV} (h:plainS x) (j:Nat) {c I N β c' I' N' β'} {v:Value} (hr:Rel c I N β (x.den.cells.getD j .any) v):Rel c' I' N' β' (x.den.cells.getD j .any) v:=by
 rw [den_cells] at hr ⊢
 by_cases hj:j<(SV.denL x.cells).length
 ·cases x with
  | agg l =>
   have hp:plainS.plainL l:=by simpa [plainS] using h
   obtain ⟨y,_,h2,h3⟩:=plainL_get hp hj
   have h3:(SV.denL (SV.agg l).cells).getD j .any=y.den:=h3
   rw [h3] at hr ⊢
   exact plainS_any y h2 hr
  | _ =>
   have:j=0:=by simp [SV.cells,SV.denL] at hj; omega
   subst this
   exact plainS_any _ h hr
 ·have e:(SV.denL x.cells).getD j .any=.any:=by simp [List.getD,List.getElem?_eq_none (Nat.le_of_not_lt hj)]
  rw [e]; exact .any v
theorem DoesH.at {f:FuncId} {args:List AV} {S:Nat} {x x':SV} {res:AV} {ρ:Store} {r:Nat} (hx:plainS x) (hx':plainS x') (hres:PlainA res) (hp:∀ j,j<args.length→Pure (args.getD j .any))
  (hr:ρ[r]?=some (some ⟨S,[x.den],none⟩)) (h:DoesH P noGhost f (.ptr 0 0 0 :: args) () [some ⟨S,[x.den],none⟩] fun v _ ρ'=>v=res∧ρ'=[some ⟨S,[x'.den],none⟩]) :
  DoesH P noGhost f (.ptr r 0 0 :: args) () ρ fun v _ ρ'=>v=res∧ρ'=ρ.set r (some ⟨S,[x'.den],none⟩):=by
 intro w F I M β vals hsr hMF hIJ hD hst hrel
 obtain ⟨l,hl⟩:∃ l,β r=some l:=by
  cases hb:β r with
  | some l=>exact ⟨l,rfl⟩
  | none=>have:=hsr.phantom r _ hr hb; cases this
 let β1:Nat→Option Loc:=fun i=>match i with
  | 0=>β r
  | _=>none
 let F1:Nat→Prop:=fun b=>F b∨∃ q R m,q≠r∧ρ[q]?=some (some R)∧β q=some m∧m.b=b
 have hF1r:¬ F1 l.b:=by
  rintro (h1 | ⟨q,R,m,h1,h2,h3,h4⟩)
  ·exact (hsr.real r _ l hr hl).2.2.2 h1
  ·exact h1 (hsr.inj q r R _ m l h2 hr h3 hl h4)
 have hF1lt:∀ b,F1 b→b<w.heap.size:=by
  rintro b (h1 | ⟨q,R,m,h1,h2,h3,rfl⟩)
  ·exact hsr.flt b h1
  ·exact (hsr.real q R m h2 h3).2.1
 have get0:∀ {q:Nat} {R:Root} {y:SV},([some ⟨S,[y.den],none⟩]:Store)[q]?=some (some R)→q=0∧R=⟨S,[y.den],none⟩:=fun {q R y} h=>by
  cases q with
  | zero=>simp at h; exact ⟨rfl,h.symm⟩
  | succ q=>simp at h
 have hsr1:SR w F1 I β1 [some ⟨S,[x.den],none⟩]:=by
  constructor
  ·intro q R m h1 h2
   obtain ⟨rfl,rfl⟩:=get0 h1
   have h2:β r=some m:=h2
   obtain rfl:l=m:=by rw [hl] at h2; cases h2; rfl
   obtain ⟨a1,a2,a3,_⟩:=hsr.real r _ l hr hl
   exact ⟨a1,a2,a3,hF1r⟩
  ·intro q R m h1 h2 i hi
   obtain ⟨rfl,rfl⟩:=get0 h1
   have h2:β r=some m:=h2
   obtain rfl:l=m:=by rw [hl] at h2; cases h2; rfl
   obtain ⟨b1,b2⟩:=hsr.cells r _ l hr hl i hi
   have hi:i=0:=by simp at hi; exact hi
   subst hi
   refine ⟨b1,fun j hj=>?_⟩
   obtain ⟨v,h3,h4⟩:=b2 j hj
   exact ⟨v,h3,plainS_cells hx j h4⟩
  ·intro q R h1 h2
   obtain ⟨rfl,rfl⟩:=get0 h1
   have h2:β r=none:=h2
   rw [hl] at h2; cases h2
  ·intro q q' R R' m m' h1 h2 h3 h4 h5
   rw [(get0 h1).1,(get0 h2).1]
  ·exact hsr.ilt
  ·exact hF1lt
  ·intro q R m h1 h2 o
   obtain ⟨rfl,rfl⟩:=get0 h1
   exact hsr.thaw r _ m hr h2 o
  ·intro q R o h1 h2
   obtain ⟨rfl,rfl⟩:=get0 h1
   cases h2
 have hrel1:RelL (cellf w) I 1 β1 (.ptr 0 0 0 :: args) vals.toList:=by
  obtain ⟨v,vs,hv,h1,h2⟩:=hrel.cons
  rw [hv]
  refine RelL.mk ?_ ⟨h2.1,fun j hj=>?_⟩
  ·generalize hq:AV.ptr r 0 0=q at h1
   cases h1 <;> cases hq
   rename_i m hlt hm
   exact .ptr 0 0 0 m (by omega) hm
  ·exact (((h2.2 j hj).pure (hp j hj) (fun _ h=>h)).mono (fun _ _ _ _ h=>h) (fun _ _ h=>h) (fun _ h=>h) (Nat.zero_le _) (fun r hr=>absurd hr (Nat.not_lt_zero _)))
 refine (h w F1 I M β1 vals hsr1 (fun b hb=>.inl (hMF b hb)) hIJ hD (fun l hl=>by cases hl) hrel1).mono ?_
 rintro e w' ⟨u,v,s',ρ0,I',β',M',rfl,⟨rfl,rfl⟩,hk,hg,hs,m1,m2,m3,hd,hv⟩
 have hβ0:β' 0=some l:=(hg.hβ 0 (by simp)).trans hl
 have hM:∀ b,¬ M b:=hD
 have hg2:Grow w w' I I' ρ.length (ρ.set r (some ⟨S,[x'.den],none⟩)).length β β:=⟨hg.hc,hg.hs,hg.hI,by simp,fun _ _=>rfl,hg.hI2,hg.hz⟩
 have hsame:∀ b,F1 b→w'.heap[b]?=w.heap[b]?:=fun b hb=>hk.block b ⟨hb,hM b⟩
 have hrow:∀ {q:Nat} {R:Root},(ρ.set r (some ⟨S,[x'.den],none⟩))[q]?=some (some R)→(q=r∧R=⟨S,[x'.den],none⟩)∨(q≠r∧ρ[q]?=some (some R)):=fun {q R} h1=>by
  rw [List.getElem?_set] at h1
  split at h1
  ·rename_i e
   subst e
   split at h1
   ·simp at h1; exact .inl ⟨rfl,h1.symm⟩
   ·cases h1
  ·rename_i e
   exact .inr ⟨fun h=>e h.symm,h1⟩
 have h0:([some ⟨S,[x'.den],none⟩]:Store)[0]?=some (some ⟨S,[x'.den],none⟩):=rfl
 refine ⟨u,_,(),ρ.set r (some ⟨S,[x'.den],none⟩),I',β,M',rfl,⟨rfl,rfl⟩,hk.sub (fun b hb=>⟨.inl hb.1,hb.2⟩),hg2,?_,m1,m2,m3,hd,hres _ _ _ _ _ _ _ _ _ hv⟩
 constructor
 ·intro q R m h1 h2
  rcases hrow h1 with ⟨rfl,rfl⟩ | ⟨hq,h1⟩
  ·obtain rfl:l=m:=by rw [hl] at h2; cases h2; rfl
   obtain ⟨a1,a2,a3,a4⟩:=hs.real 0 _ l h0 hβ0
   exact ⟨a1,a2,a3,fun hb=>a4 (hb.imp .inl id)⟩
  ·obtain ⟨a1,a2,a3,a4⟩:=hsr.real q R m h1 h2
   refine ⟨a1,Nat.lt_of_lt_of_le a2 hg.hz,fun hi=>(hg.hI2 _ hi).elim a3 (fun h=>by omega),fun hb=>?_⟩
   rcases hb with hb | hb
   ·exact a4 hb
   ·rcases m2 _ hb with h | h
    ·exact hM _ h
    ·omega
 ·intro q R m h1 h2 i hi
  rcases hrow h1 with ⟨rfl,rfl⟩ | ⟨hq,h1⟩
  ·obtain rfl:l=m:=by rw [hl] at h2; cases h2; rfl
   obtain ⟨b1,b2⟩:=hs.cells 0 _ l h0 hβ0 i hi
   have hi:i=0:=by simp at hi; exact hi
   subst hi
   refine ⟨b1,fun j hj=>?_⟩
   obtain ⟨y,h3,h4⟩:=b2 j hj
   exact ⟨y,h3,plainS_cells hx' j h4⟩
  ·obtain ⟨b1,b2⟩:=hsr.cells q R m h1 h2 i hi
   have hsm:=hsame m.b (.inr ⟨q,R,m,hq,h1,h2,rfl⟩)
   refine ⟨b1,fun j hj=>?_⟩
   obtain ⟨y,h6,h7⟩:=b2 j hj
   exact ⟨y,by rw [cellf_same hsm]; exact h6,hg2.rel h7⟩
 ·intro q R h1 h2
  rcases hrow h1 with ⟨rfl,rfl⟩ | ⟨hq,h1⟩
  ·rw [hl] at h2; cases h2
  ·exact hsr.phantom q R h1 h2
 ·intro q q' R R' m m' h1 h2 h3 h4 h5
  have back:∀ {q:Nat} {R:Root},(ρ.set r (some ⟨S,[x'.den],none⟩))[q]?=some (some R)→∃ R0,ρ[q]?=some (some R0):=fun {q R} h1=>by
   rcases hrow h1 with ⟨rfl,rfl⟩ | ⟨hq,h1⟩
   ·exact ⟨_,hr⟩
   ·exact ⟨_,h1⟩
  obtain ⟨R0,e1⟩:=back h1
  obtain ⟨R0',e2⟩:=back h2
  exact hsr.inj q q' R0 R0' m m' e1 e2 h3 h4 h5
 ·exact hs.ilt
 ·intro b hb
  rcases hb with hb | hb
  ·exact Nat.lt_of_lt_of_le (hsr.flt b hb) hg.hz
  ·exact hs.flt b (.inr hb)
 ·intro q R m h1 h2 o
  rcases hrow h1 with ⟨rfl,rfl⟩ | ⟨hq,h1⟩
  ·obtain rfl:l=m:=by rw [hl] at h2; cases h2; rfl
   exact hs.thaw 0 _ l h0 hβ0 o
  ·rw [frozen_same (hsame m.b (.inr ⟨q,R,m,hq,h1,h2,rfl⟩))]; exact hsr.thaw q R m h1 h2 o
 ·intro q R o h1 h2
  rcases hrow h1 with ⟨rfl,rfl⟩ | ⟨hq,h1⟩
  ·cases h2
  ·obtain ⟨e,m,y,h5,h6,h7⟩:=hsr.obs q R o h1 h2
   refine ⟨e,m,y,h5,?_,h7.mono fun a v=>hg2.rel⟩
   rw [hsame m.b (.inr ⟨q,R,m,hq,h1,h5,rfl⟩)]; exact h6
def PtOK (P:Program) (f:FuncId) (S:Nat) (x:SV) (args:List SV) (x' res:SV):Prop :=
 plainS x∧plainS x'∧PlainA res.den∧DoesH P noGhost f (.ptr 0 0 0 :: SV.denL args) () [some ⟨S,[x.den],none⟩] fun v _ ρ'=>v=res.den∧ρ'=[some ⟨S,[x'.den],none⟩]
noncomputable def oneX (S:Nat) (x:SV):XS:=⟨1,Tr.set (some (SRow.v S x)) (path 3 0) .nil⟩
noncomputable def ptH (P:Program) (cs:CSpec) (cx:CX) (ic:IC) (sp:Nat→Option HSpec) (isp:Nat→Option ISpecR) (f:FuncId) (S:Nat) (x:SV) (args:List SV) (x' res:SV):Prop :=
 bodyH P cs cx none ic sp isp f (.ptr 0 0 0 :: args) (oneX S x) none fun n rs t X q=>resS P (sev n t) X rs fun vs=>eqS res (oneS vs) (normP n 1 [] .nil (oneX S x') t X True)
theorem oneX_den (S:Nat) (x:SV):(oneX S x).den=[some ⟨S,[x.den],none⟩]:=by
 have h:(oneX S x).row 0=some (SRow.v S x):=by
  unfold oneX XS.row
  show Tr.get none (path 3 0) (Tr.set (some (SRow.v S x)) (path 3 0) .nil)=_
  rfl
 have h2:=XS.row_get h
 have h3:=XS.length (oneX S x)
 have h3:(oneX S x).den.length=1:=h3
 match hd:(oneX S x).den,h3 with
 | [y],_ =>
  rw [hd] at h2
  simp at h2
  rw [h2,SRow.v_den]
theorem ptH_ok {cs:CSpec} {cx:CX} {ic:IC} (hcs:SoundS P cs) (hcx:SoundXH P noGhost γ0 cx) (hic:SoundIH P ic) (hm:P.follows .mixedOrders=true) {sp:Nat→Option HSpec} {isp:Nat→Option ISpecR} {f:FuncId} {S:Nat} {x:SV} {args:List SV} {x' res:SV}
  (hx:plainS x) (hx':plainS x') (hres:plainS res) (h:ptH P cs cx ic sp isp f S x args x' res):PtOK P f S x args x' res:=by
 obtain ⟨fn,c,hf,hb,hn,hw⟩:=bodyH_spec (Γ:=noGhost) (γ:=γ0) (ys:=none) hcs hcx trivial hic hm (by show 1<512; omega) h
 refine ⟨hx,hx',fun c I N β c' I' N' β' v hv=>plainS_any res hres hv,?_⟩
 rw [oneX_den] at hw
 refine DoesH.of2 hf hb fun H h1 h2 h3=>wpH_mono (hw H h1 h2 h3) ?_
 rintro e s A ρ ⟨he,t,X',q',-,rfl,rfl,hX,hk⟩
 obtain ⟨vs,h4,h5⟩:=resS_spec hk
 obtain ⟨h6,h7,h8⟩:=eqS_spec _ _ h5
 refine ⟨he,_,h4,by rw [← oneS_den]; exact h7,frD fn.ntmps .nil,(oneX S x').den,fun a w hs=>hs.weaken fun C' a w hC' hs'=>hs'.norm (normP_spec (C:=C') (by rw [hC'.2,h2]; exact Nat.le_refl _) h8).1,by rw [← oneS_den]; exact h6,oneX_den S x'⟩
structure PCtr where
 f:FuncId
 S:Nat
 c:SV→List SV→(SV→SV→Prop)→Prop
def PCtr.Ok (P:Program) (x:PCtr):Prop:=callable P x.f=true∧∀ v args k,x.c v args k→∃ v' res,PtOK P x.f x.S v args v' res∧k v' res
noncomputable def ptK (x:PCtr) (args:List SV) (X:XS) (q:GS) (k:KVH):Prop:=match args with
 | .ptr r i j :: rest=>(match X.row r with
  | some R=>ifP (R.var && (Nat.beq R.n 1 && (Nat.beq R.sz x.S && (Nat.beq i 0 && Nat.beq j 0)))) (pureV.pureVL rest fun rest=>x.c (R.f 0) rest fun v' res=>forceX (X.set r (some (SRow.v x.S v'))) fun X=>k res X q)
  | none=>False)
 | _=>False
noncomputable def ctrsP (l:List PCtr) (rest:CX):CX:=fun g=>List.rec (motive:=fun _=>Option (List SV→XS→GS→KVH→Prop)) (rest g) (fun x _ ih=>match Nat.beq x.f g with
 | true=>some (ptK x)
 | false=>ih) l
theorem ctrsP_sound {Γ:Ghost} {γ:GS→Γ.S} {l:List PCtr} {rest:CX} (hr:SoundXH P Γ γ rest) (h:∀ x ∈ l,x.Ok P):SoundXH P Γ γ (ctrsP l rest):=by
 intro g hh hg args X q k hX hk
 induction l with
 | nil=>exact hr g hh hg args X q k hX hk
 | cons x l ih =>
  have hg2:(match Nat.beq x.f g with
   | true=>some (ptK x)
   | false=>ctrsP l rest g)=some hh:=hg
  split at hg2
  ·rename_i hb
   obtain rfl:x.f=g:=by simpa using hb
   cases hg2
   obtain ⟨hc,ho⟩:=h x (by simp)
   unfold ptK at hk
   split at hk
   ·rename_i r i j rest
    split at hk
    ·rename_i R hR
     obtain ⟨h1,hk1⟩:=ifP_spec hk
     clear hk
     simp only [Bool.and_eq_true,Nat.beq_eq] at h1
     obtain ⟨c1,c2,c3,rfl,rfl⟩:=h1
     obtain ⟨h2,hk2⟩:=pureVL_spec rest hk1
     obtain ⟨v',res,⟨p1,p2,p3,hd⟩,hk⟩:=ho _ _ _ hk2
     rw [forceX_eq] at hk
     have hrow:X.den[r]?=some (some ⟨x.S,[(R.f 0).den],none⟩):=by
      rw [XS.row_get hR]
      simp [SRow.den,SRow.els,c2,c3,List.range_succ,SRow.obj_n (R:=R) (by omega)]
     refine ⟨hc,((DoesH.at p1 p2 p3 (pureSL_spec h2) hrow hd).ghost (R:=fun v ρ'=>v=res.den∧ρ'=X.den.set r (some ⟨x.S,[v'.den],none⟩))).mono ?_⟩
     rintro v s ρ' ⟨⟨rfl,rfl⟩,rfl⟩
     refine ⟨res,X.set r (some (SRow.v x.S v')),q,rfl,rfl,?_,hX,hk⟩
     rw [XS.set_den (by omega) (XS.row_lt hR)]
     simp [denR,SRow.v_den]
    ·exact hk.elim
   ·exact hk.elim
  ·exact ih (fun x hx=>h x (by simp [hx])) hg2
end Go.Lg

namespace Go.Lg
open Go.RowKit
variable {P:Program}
noncomputable def setRows (X:XS) (l:List (Nat × SRow)):XS:=List.rec (motive:=fun _=>XS→XS) (fun X=>X) (fun p _ ih X=>ih (X.set p.1 (some p.2))) l X
theorem setRows_n:∀ (l:List (Nat × SRow)) (X:XS),(setRows X l).n=X.n
 | [],X=>rfl
 | p :: l,X=>by
  show (setRows (X.set p.1 (some p.2)) l).n=X.n
  rw [setRows_n l]; rfl
theorem setRows_den:∀ (l:List (Nat × SRow)) (X:XS),X.n≤512→(∀ p ∈ l,p.1<X.n)→(setRows X l).den=l.foldl (fun ρ p=>ρ.set p.1 (denR (some p.2))) X.den
 | [],X,_,_=>rfl
 | p :: l,X,hX,h=>by
  show (setRows (X.set p.1 (some p.2)) l).den=_
  rw [setRows_den l (X.set p.1 (some p.2)) hX fun q hq=>h q (by simp [hq])]
  rw [XS.set_den hX (h p (by simp))]
  rfl
theorem foldl_set_append {α:Type} (f:α→Option Root) (g:α→Nat):∀ (l:List α) (ρ ext:Store),(∀ p ∈ l,g p<ρ.length)→l.foldl (fun ρ p=>ρ.set (g p) (f p)) (ρ ++ ext)=l.foldl (fun ρ p=>ρ.set (g p) (f p)) ρ ++ ext
 | [],ρ,ext,_=>rfl
 | p :: l,ρ,ext,h=>by
  simp only [List.foldl_cons]
  rw [List.set_append_left _ _ (h p (by simp))]
  exact foldl_set_append f g l _ ext fun q hq=>by rw [List.length_set]; exact h q (by simp [hq])
def chB (n:Nat) (l:List (Nat × SRow)):Bool:=l.all fun p=>Nat.blt p.1 n
end Go.Lg

namespace Go.Lg
open Go.RowKit
variable {P:Program}
def MrOK (P:Program) (f:FuncId) (X0:XS) (args:List SV) (τ:Type) (out:τ→Prop) (X1:τ→XS) (res:τ→SV):Prop :=
 ∀ ext,DoesH P noGhost f (SV.denL args) () (X0.den ++ ext) fun v _ ρ=>∃ y,out y∧v=(res y).den∧ρ=(X1 y).den ++ ext
structure MCtr where
 f:FuncId
 p:Type
 r:Type
 pre:p→Prop
 X0:p→XS
 args:p→List SV
 out:p→r→Prop
 ch:p→r→List (Nat × SRow)
 res:p→r→SV
noncomputable def MCtr.X1 (x:MCtr) (p:x.p) (y:x.r):XS:=setRows (x.X0 p) (x.ch p y)
def MCtr.Ok (P:Program) (x:MCtr):Prop:=callable P x.f=true∧∀ p,x.pre p→MrOK P x.f (x.X0 p) (x.args p) x.r (x.out p) (x.X1 p) (x.res p)
noncomputable def mrH (P:Program) (cs:CSpec) (cx:CX) (ic:IC) (sp:Nat→Option HSpec) (isp:Nat→Option ISpecR) (x:MCtr) (p:x.p):Prop :=
 ifP (Nat.blt (x.X0 p).n 512) (belXS (x.X0 p) (x.X0 p).n (belVL (x.X0 p).n (x.args p) (bodyH P cs cx none ic sp isp x.f (x.args p) (x.X0 p) none fun n rs t X q=>resS P (sev n t) X rs fun vs=>∃ y,x.out p y∧eqS (x.res p y) (oneS vs) (forceX (setRows (x.X0 p) (x.ch p y)) fun X1=>normP n (x.X0 p).n [] .nil X1 t X True))))
theorem mrH_ok {cs:CSpec} {cx:CX} {ic:IC} (hcs:SoundS P cs) (hcx:SoundXH P noGhost γ0 cx) (hic:SoundIH P ic) (hm:P.follows .mixedOrders=true) {sp:Nat→Option HSpec} {isp:Nat→Option ISpecR} {x:MCtr} {p:x.p} (h:mrH P cs cx ic sp isp x p):MrOK P x.f (x.X0 p) (x.args p) x.r (x.out p) (x.X1 p) (x.res p):=by
 obtain ⟨hX,h⟩:=ifP_spec h
 have hX:(x.X0 p).n<512:=by simpa [Nat.blt_eq] using hX
 obtain ⟨hb1,h⟩:=belX_BelS h
 obtain ⟨hb2,h⟩:=belVL_spec (x.args p) h
 obtain ⟨fn,c,hf,hb,hn,hw⟩:=bodyH_spec (Γ:=noGhost) (γ:=γ0) (ys:=none) hcs hcx trivial hic hm hX h
 have hd:DoesH P noGhost x.f (SV.denL (x.args p)) () (x.X0 p).den fun v s ρ=>∃ y,x.out p y∧v=(x.res p y).den∧ρ=(x.X1 p y).den:=by
  refine DoesH.of2 hf hb fun H h1 h2 h3=>wpH_mono (hw H h1 h2 h3) ?_
  rintro e s A ρ ⟨he,t,X',q',-,rfl,rfl,hX,hk⟩
  obtain ⟨vs,h4,y,hy,h5⟩:=resS_spec hk
  obtain ⟨h6,h7,h8⟩:=eqS_spec _ _ h5
  rw [forceX_eq] at h8
  refine ⟨he,_,h4,by rw [← oneS_den]; exact h7,frD fn.ntmps .nil,(x.X1 p y).den,fun a w hs=>hs.weaken fun C' a w hC' hs'=>hs'.norm (normP_spec (C:=C') (by rw [hC'.2,h2,XS.length]; exact Nat.le_refl _) h8).1,y,hy,by rw [← oneS_den]; exact h6,rfl⟩
 intro ext
 refine (hd.frame (fun v s ρ h=>by obtain ⟨y,_,_,h⟩:=h; rw [h,XS.length,XS.length,MCtr.X1,setRows_n]) (.inl rfl) (fun j hj=>by rw [XS.length]; exact hb2 j hj) hb1 ext).mono ?_
 rintro v s ρ ⟨ρ0,⟨y,hy,h1,rfl⟩,rfl⟩
 exact ⟨y,hy,h1,rfl⟩
noncomputable def mcK (x:MCtr) (args:List SV) (X:XS) (q:GS) (k:KVH):Prop :=
 ∃ p,x.pre p∧eqDL (x.args p) args (ifP (Nat.ble (x.X0 p).n X.n) (rowsEq (x.X0 p) X (x.X0 p).n (∀ y,x.out p y→ifP (chB (x.X0 p).n (x.ch p y)) (forceX (setRows X (x.ch p y)) fun X=>k (x.res p y) X q))))
noncomputable def ctrsM (l:List MCtr) (rest:CX):CX:=fun g=>List.rec (motive:=fun _=>Option (List SV→XS→GS→KVH→Prop)) (rest g) (fun x _ ih=>match Nat.beq x.f g with
 | true=>some (mcK x)
 | false=>ih) l
theorem ctrsM_sound {Γ:Ghost} {γ:GS→Γ.S} {l:List MCtr} {rest:CX} (hr:SoundXH P Γ γ rest) (h:∀ x ∈ l,x.Ok P):SoundXH P Γ γ (ctrsM l rest):=by
 intro g hh hg args X q k hX hk
 induction l with
 | nil=>exact hr g hh hg args X q k hX hk
 | cons x l ih =>
  have hg2:(match Nat.beq x.f g with
   | true=>some (mcK x)
   | false=>ctrsM l rest g)=some hh:=hg
  split at hg2
  ·rename_i hb
   obtain rfl:x.f=g:=by simpa using hb
   cases hg2
   obtain ⟨hc,ho⟩:=h x (by simp)
   unfold mcK at hk
   obtain ⟨p,hp,h1⟩:=hk
   obtain ⟨h2,h3⟩:=eqDL_spec _ _ h1
   obtain ⟨h4,h5⟩:=ifP_spec h3
   have h4:(x.X0 p).n≤X.n:=by simpa [Nat.ble_eq] using h4
   obtain ⟨h6,h7⟩:=rowsEq_spec h5
   have hpre:=prefix_den h4 h6
   have hd:=ho p hp (X.den.drop (x.X0 p).n)
   rw [← hpre,← h2] at hd
   have hX0:(x.X0 p).n≤512:=by omega
   refine ⟨hc,(hd.ghost (R:=fun v ρ'=>∃ y,x.out p y∧v=(x.res p y).den∧ρ'=(x.X1 p y).den ++ X.den.drop (x.X0 p).n)).mono ?_⟩
   rintro v s ρ' ⟨⟨y,hy,rfl,rfl⟩,rfl⟩
   have h7:=h7 y hy
   obtain ⟨hch,h7⟩:=ifP_spec h7
   rw [forceX_eq] at h7
   have hlt:∀ c ∈ x.ch p y,c.1<(x.X0 p).n:=fun c hc=>by
    have:=List.all_eq_true.1 hch c hc
    simpa [Nat.blt_eq] using this
   have e:(setRows X (x.ch p y)).den=(x.X1 p y).den ++ X.den.drop (x.X0 p).n:=by
    rw [setRows_den _ _ (by omega) fun c hc=>by have:=hlt c hc; omega]
    unfold MCtr.X1
    rw [setRows_den _ _ hX0 hlt]
    conv=>lhs; rw [hpre]
    exact foldl_set_append (fun p:Nat × SRow=>denR (some p.2)) (fun p=>p.1) _ _ _ fun c hc=>by rw [XS.length]; exact hlt c hc
   exact ⟨x.res p y,setRows X (x.ch p y),q,rfl,rfl,e.symm,by rw [setRows_n]; exact hX,h7⟩
  ·exact ih (fun x hx=>h x (by simp [hx])) hg2
end Go.Lg

namespace Go.Lg
open Go.RowKit
variable {P:Program}
noncomputable def endO (n sz:Nat) (rs:List ResultVar) (N':Nat) (h':Nat→SV) (t:FS) (X:XS):Prop:=match rs with
 | [.tmp a]=>(match sget n t a with
  | .sl j _ _=>ifP (Nat.blt a n) ((∀ i,i<N'→pureS (h' i))∧normZ true n 0 [some j] (sset n .nil a (.sl 0 0 N')) ((⟨0,.nil⟩:XS).push (some (rowO sz N' h'))) t X True)
  | _=>False)
 | _=>False
noncomputable def funO (P:Program) (cs:CSpec) (cx:CX) (ic:IC) (ox:OX) (sp:Nat→Option HSpec) (isp:Nat→Option ISpecR) (f:FuncId) (args:List SV) (sz N:Nat) (h:Nat→SV) (N':Nat) (h':Nat→SV):Prop:=match P.funcs[f]? with
 | some fn=>(match fn.body with
  | some c=>ifP (Nat.ble fn.ntmps 512 && Nat.ble args.length fn.ntmps) (forceNat fn.ntmps fun n=>forceX ((⟨0,.nil⟩:XS).push (some (rowO sz N h))) fun X0=>WH P cs cx none ic ox sp isp n c 0 0 true (fun e t X q=>match e with
   | .normal=>endO n sz fn.results.toList N' h' t X
   | .ret=>endO n sz fn.results.toList N' h' t X
   | _=>False) (frmS n args 0 .nil) X0 none)
  | none=>False)
 | none=>False
theorem endO_spec {H:HC} {Γ:Ghost} {s:Γ.S} {n sz:Nat} {rs:List ResultVar} {N':Nat} {h':Nat→SV} {t:FS} {X:XS} (hn:n≤512) (h0:H.C.n0=0) (hown:H.C.own) (h:endO n sz rs N' h' t X) :
  ∃ A'' ρ'' vs,(∀ a w,SRelH H Γ s a w (frD n t) X.den→SRelH H Γ s a w A'' ρ'')∧resA P A'' ρ'' rs vs∧∃ j n1 h1,one? vs=.sl j 0 n1∧ρ''[j]?=some (denR (some (rowO sz n1 h1)))∧(∀ i,i<n1→pureS (h1 i))∧n1=N'∧h1=h':=by
 have hX1:((⟨0,.nil⟩:XS).push (some (rowO sz N' h'))).den=[denR (some (rowO sz N' h'))]:=by
  rw [XS.push_den (by show 0<512; omega)]; rfl
 unfold endO at h
 split at h
 ·rename_i a
  split at h
  ·rename_i j _ _ _
   obtain ⟨ha,hp,hz⟩:=ifP_spec h
   have ha:a<n:=by simpa [Nat.blt_eq] using ha
   refine ⟨_,_,[.sl 0 0 N'],fun a w hs=>hs.normD (fun _=>hown) (normZ_spec (by omega) hz).1,⟨[],?_,rfl⟩,0,N',h',rfl,?_,hp,rfl,rfl⟩
   ·rw [← sset_den hn]
    simp [List.getD,frD_length,ha,SV.den]
   ·rw [hX1]; rfl
  ·exact h.elim
 ·exact h.elim
theorem funO_ok {cs:CSpec} {cx:CX} {ic:IC} {ox:OX} (hcs:SoundS P cs) (hcx:∀ (Γ:Ghost) (γ:GS→Γ.S),SoundXH P Γ γ cx) (hic:SoundIH P ic) (hox:SoundO P ox) (hm:P.follows .mixedOrders=true) {sp:Nat→Option HSpec} {isp:Nat→Option ISpecR} {f:FuncId} {args:List SV} {sz N:Nat} {h:Nat→SV} {N':Nat} {h':Nat→SV}
  (hh:funO P cs cx ic ox sp isp f args sz N h N' h'):DoesO P f (SV.denL args) [denR (some (rowO sz N h))] fun v ρ'=>∃ j n1 h1,v=.sl j 0 n1∧ρ'[j]?=some (denR (some (rowO sz n1 h1)))∧(∀ i,i<n1→pureS (h1 i))∧n1=N'∧h1=h':=by
 have hX0:((⟨0,.nil⟩:XS).push (some (rowO sz N h))).den=[denR (some (rowO sz N h))]:=by
  rw [XS.push_den (by show 0<512; omega)]; rfl
 unfold funO at hh
 split at hh
 ·rename_i fn hf
  split at hh
  ·rename_i c hb
   obtain ⟨hc,hh⟩:=ifP_spec hh
   simp only [Bool.and_eq_true,Nat.ble_eq] at hc
   obtain ⟨hn,ha⟩:=hc
   rw [forceNat_eq,forceX_eq] at hh
   refine DoesO.of hf hb fun w0 H h1 h2 h3 hown=>?_
   rw [← frmS_den hn args ha,← hX0]
   refine WH_sound (Γ:=memGhost w0) (γ:=fun _=>()) hcs (hcx _ _) (ys:=none) trivial hic hm hn hox c (by show 1<512; omega) hh H _ (by rw [h2]; exact Nat.le_refl _) h3 (fun _=>hown) fun e t X q hX hk=>?_
   cases e with
   | normal=>exact ⟨.inl rfl,endO_spec hn h2 hown hk⟩
   | ret=>exact ⟨.inr rfl,endO_spec hn h2 hown hk⟩
   | _=>exact hk.elim
  ·exact hh.elim
 ·exact hh.elim
structure OCtr where
 f:FuncId
 fn:OFn
def OCtr.Ok (P:Program) (x:OCtr):Prop:=callable P x.f=true∧∀ args N h k,x.fn.c args N h k→∃ N' h',k N' h' ∧
 DoesO P x.f (SV.denL args) [denR (some (rowO x.fn.sz N h))] fun v ρ'=>∃ j n1 h1,v=.sl j 0 n1∧ρ'[j]?=some (denR (some (rowO x.fn.sz n1 h1)))∧(∀ i,i<n1→pureS (h1 i))∧n1=N'∧h1=h'
noncomputable def octrs (l:List OCtr):OX:=fun g=>List.rec (motive:=fun _=>Option OFn) none (fun x _ ih=>match Nat.beq x.f g with
 | true=>some x.fn
 | false=>ih) l
theorem octrs_sound {l:List OCtr} (h:∀ x ∈ l,x.Ok P):SoundO P (octrs l):=by
 intro g y hg args N hh k hk
 induction l with
 | nil=>cases hg
 | cons x l ih =>
  have hg2:(match Nat.beq x.f g with
   | true=>some x.fn
   | false=>octrs l g)=some y:=hg
  split at hg2
  ·rename_i hb
   obtain rfl:x.f=g:=by simpa using hb
   cases hg2
   obtain ⟨hc,ho⟩:=h x (by simp)
   obtain ⟨N',h',h1,h2⟩:=ho _ _ _ _ hk
   refine ⟨hc,fun w g F I0 I M β vals a1 a2 a3 a4 a5 a6=>(h2 w g F I0 I M β vals a1 a2 a3 a4 a5 a6).mono ?_⟩
   rintro e w' ⟨u,v,ρ',I',β',he,⟨j,n1,f1,b1,b2,b3,rfl,rfl⟩,hr⟩
   exact ⟨u,v,ρ',I',β',he,⟨j,n1,f1,b1,b2,b3,h1⟩,hr⟩
  ·exact ih (fun x hx=>h x (by simp [hx])) hg2
noncomputable def funY (P:Program) (cs:CSpec) (cx:CX) (ic:IC) (ox:OX) (sp:Nat→Option HSpec) (isp:Nat→Option ISpecR) (f:FuncId) (args:List SV) (res:SV):Prop :=
 bodyZ true ox P cs cx none ic sp isp f args ⟨0,.nil⟩ none fun n rs t X q=>resS P (sev n t) X rs fun vs=>snapP X res (oneS vs) True
theorem funY_does {cs:CSpec} {cx:CX} {ic:IC} {ox:OX} (hcs:SoundS P cs) (hcx:SoundXH P noGhost γ0 cx) (hic:SoundIH P ic) (hox:SoundO P ox) (hm:P.follows .mixedOrders=true) {sp:Nat→Option HSpec} {isp:Nat→Option ISpecR} {f:FuncId} {args:List SV} {res:SV} (h:funY P cs cx ic ox sp isp f args res):Does P f false (SV.denL args) res.den:=by
 obtain ⟨fn,c,hf,hb,hn,hw⟩:=bodyZ_spec (zf:=true) hox (Γ:=noGhost) (γ:=γ0) (ys:=none) hcs hcx trivial hic hm (by show 0<512; omega) h
 refine DoesA.toDoes (DoesA.of (zf:=true) hf hb fun H h1 h2 h3 hz=>wpH_mono (hw H h1 h2 h3 hz) ?_)
 rintro e s A ρ ⟨he,t,X',q',-,rfl,rfl,hX,hk⟩
 obtain ⟨vs,h1,h2⟩:=resS_spec hk
 refine ⟨he,_,_,_,fun _ _ h=>h,h1,?_⟩
 rw [← oneS_den]; exact (snapP_spec _ _ h2).1
end Go.Lg
