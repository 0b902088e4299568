import Derived.Test.YtmjbflifegmmnaaPdPd1Pd2Pd3Pd4PlPmPqPrPsPtPe
set_option linter.unusedVariables false
set_option linter.unusedSimpArgs false
namespace Go.Lg
open Go.RowKit
variable {P:Program}

theorem DoesA.toDoes {zf:Bool} {f args res} (h:DoesA zf P noGhost f args () [] (fun a s r=>SnapN 0 r a res)):Does P f false args res:=by
 intro w I vals hI hrel
 have hsr:SR w (fun b=>b<w.heap.size) I noβ []:=⟨fun r R l h=>by simp at h,fun r R l h=>by simp at h,fun r R h=>by simp at h,fun r s R S l m h=>by simp at h,hI,fun b hb=>hb,fun r R l h=>by simp at h,fun r R o h=>by simp at h⟩
 refine (h w _ I (fun _=>False) noβ vals (fun _ b hb=>⟨hb,fun h=>h⟩) hsr (fun b hb=>hb.elim) (fun b hb=>.inr fun h=>h) (fun b hb=>hb) (fun l hl=>by cases hl) hrel).mono ?_
 rintro e w' ⟨u,a,s,r,I',β',M',rfl,hs,hk,hg,hs',m1,m2,m3,hd,hr⟩
 refine ⟨u,withLive I' β' r,rfl,hk.sub (fun b hb=>⟨hb,fun h=>h⟩),fun b hb=>?_,fun b hb=>?_,Snap.rel hs hs' hr⟩
 ·rcases hb with hb | ⟨r,R,l,h1,h2,rfl⟩
  ·exact hs'.ilt b hb
  ·exact (hs'.real r R l h1 h2).2.1
 ·rcases hb with hb | ⟨r,R,l,h1,h2,rfl⟩
  ·exact (hg.hI2 b hb).imp (fun h=>⟨rfl,h⟩) id
  ·exact .inr (Nat.le_of_not_lt (fun hlt=>(hs'.real r R l h1 h2).2.2.2 (.inl hlt)))
theorem DoesH.toDoes {f args res} (h:DoesH P noGhost f args () [] (fun a s r=>SnapN 0 r a res)):Does P f false args res :=
 DoesA.toDoes (zf:=false) fun w F I M β vals _=>h w F I M β vals
section
variable {Γ:Ghost} {s:Γ.S} {ρ:Store}
theorem RelL.belL {c I N β l vs n} (h:RelL c I N β l vs) (hb:∀ j,j<l.length→Bel n (l.getD j .any)):RelL c I n β l vs:=⟨h.1,fun j hj=>(h.2 j hj).bel (hb j hj)⟩
theorem DoesH.frame {f:FuncId} {args:List AV} {R:AV→Γ.S→Store→Prop} (h:DoesH P Γ f args s ρ R) (hR:∀ v s' ρ',R v s' ρ'→ρ'.length=ρ.length) (hy:Γ.y=none∨0<ρ.length)
  (ha:∀ j,j<args.length→Bel ρ.length (args.getD j .any)) (hb:BelS ρ.length ρ) (ext:Store):DoesH P Γ f args s (ρ ++ ext) fun v s' ρ'=>∃ ρ0,R v s' ρ0∧ρ'=ρ0 ++ ext:=by
 intro w F I M β vals hsr hMF hIJ hD hst hrel
 have htake:(ρ ++ ext).take ρ.length=ρ:=by simp
 have hsr1:SR w F I β ρ:=by
  have:=hsr.trim ρ.length (by simp) (by rw [htake]; exact hb)
  rwa [htake] at this
 have hge:∀ {r:Nat} {R:Root},ρ.length≤r→(ρ ++ ext)[r]?=some (some R)→ext[r - ρ.length]?=some (some R):=fun h1 h2=>by rwa [List.getElem?_append_right h1] at h2
 have hlt:∀ {r:Nat} {R:Root},ρ[r]?=some (some R)→r<ρ.length∧(ρ ++ ext)[r]?=some (some R):=fun h1=>by
  have:=(List.getElem?_eq_some_iff.1 h1).1
  exact ⟨this,by rw [List.getElem?_append_left this]; exact h1⟩
 let F2:Nat→Prop:=fun b=>F b∨∃ r R l,ρ.length≤r∧(ρ ++ ext)[r]?=some (some R)∧β r=some l∧l.b=b
 have hsr2:SR w F2 I β ρ:=hsr1.foreign (fun b hb=>by
   rcases hb with hb | ⟨r,R,l,h1,h2,h3,rfl⟩
   ·exact hsr1.flt b hb
   ·exact (hsr.real r R l h2 h3).2.1) (fun r R l h1 h2 hb=>by
   rcases hb with hb | ⟨r',R',l',h3,h4,h5,h6⟩
   ·exact (hsr1.real r R l h1 h2).2.2.2 hb
   ·have:=hsr.inj r r' R R' l l' (hlt h1).2 h4 h2 h5 h6.symm
    have:=(hlt h1).1
    omega)
 refine (h w F2 I M β vals hsr2 (fun b hb=>.inl (hMF b hb)) hIJ hD (fun l hl=>?_) (hrel.belL ha)).mono ?_
 ·obtain ⟨h1,h2⟩:=hst l hl
  rcases hy with h3 | h3
  ·rw [hl] at h3; cases h3
  ·exact ⟨h3,h2⟩
 rintro e w' ⟨u,v,s',ρ0,I',β',M',rfl,hr,hk,hg,hs,m1,m2,m3,hd,hv⟩
 have hl0:=hR _ _ _ hr
 have hlen:(ρ0 ++ ext).length=(ρ ++ ext).length:=by simp [hl0]
 let β2:Nat→Option Loc:=fun r=>if r<ρ.length then β' r else β r
 have hβ2:∀ r,β2 r=β r:=fun r=>by
  show (if r<ρ.length then β' r else β r)=β r
  split
  ·rename_i h; exact hg.hβ r h
  ·rfl
 have hg2:Grow w w' I I' (ρ ++ ext).length (ρ0 ++ ext).length β β2:=⟨hg.hc,hg.hs,hg.hI,by rw [hlen]; exact Nat.le_refl _,fun r _=>hβ2 r,hg.hI2,hg.hz⟩
 have mv:∀ {a:AV} {x:Value},Rel (cellf w') I' ρ0.length β' a x→Rel (cellf w') I' (ρ0 ++ ext).length β2 a x:=fun h=>h.mono (fun _ _ _ _ h=>h) (fun _ _ h=>h) (fun _ h=>h) (by simp) (fun r hr=>by rw [hβ2]; exact (hg.hβ r (by omega)).symm)
 have hF2':∀ b,F2 b→¬ M b→w'.heap[b]?=w.heap[b]?:=fun b hb hm=>hk.block b ⟨hb,hm⟩
 have hex:∀ {r:Nat} {R:Root} {l:Loc},ρ.length≤r→(ρ0 ++ ext)[r]?=some (some R)→β2 r=some l→(ρ ++ ext)[r]?=some (some R)∧β r=some l∧w'.heap[l.b]?=w.heap[l.b]?:=fun {r R l} h1 h2 h3=>by
  rw [List.getElem?_append_right (by omega)] at h2
  have h4:(ρ ++ ext)[r]?=some (some R):=by rw [List.getElem?_append_right h1,← hl0]; exact h2
  rw [hβ2] at h3
  exact ⟨h4,h3,hF2' _ (.inr ⟨r,R,l,h1,h4,h3,rfl⟩) fun hm=>(hsr.real r R l h4 h3).2.2.2 (hMF _ hm)⟩
 have hin:∀ {r:Nat} {R:Root} {l:Loc},r<ρ.length→(ρ0 ++ ext)[r]?=some (some R)→β2 r=some l→ρ0[r]?=some (some R)∧β' r=some l:=fun {r R l} h1 h2 h3=>by
  rw [List.getElem?_append_left (by omega)] at h2
  rw [hβ2,← hg.hβ r h1] at h3
  exact ⟨h2,h3⟩
 refine ⟨u,v,s',ρ0 ++ ext,I',β2,M',rfl,⟨ρ0,hr,rfl⟩,hk.sub (fun b hb=>⟨.inl hb.1,hb.2⟩),hg2,?_,m1,m2,m3,hd,mv hv⟩
 have hw:∀ b o,cellf w b o≠none→True:=fun _ _ _=>trivial
 constructor
 ·intro r R l h1 h2
  by_cases hr:r<ρ.length
  ·obtain ⟨h3,h4⟩:=hin hr h1 h2
   obtain ⟨a1,a2,a3,a4⟩:=hs.real r R l h3 h4
   exact ⟨a1,a2,a3,fun hb=>a4 (hb.imp .inl id)⟩
  ·obtain ⟨h3,h4,h5⟩:=hex (by omega) h1 h2
   obtain ⟨a1,a2,a3,a4⟩:=hsr.real r R l h3 h4
   refine ⟨a1,Nat.lt_of_lt_of_le a2 hg.hz,fun hi=>(hg.hI2 _ hi).elim a3 (fun h=>by omega),fun hb=>?_⟩
   rcases hb with hb | hb
   ·exact a4 hb
   ·rcases m2 _ hb with h | h
    ·exact a4 (hMF _ h)
    ·omega
 ·intro r R l h1 h2 i hi
  by_cases hr:r<ρ.length
  ·obtain ⟨h3,h4⟩:=hin hr h1 h2
   obtain ⟨b1,b2⟩:=hs.cells r R l h3 h4 i hi
   exact ⟨b1,fun j hj=>by
    obtain ⟨x,h5,h6⟩:=b2 j hj
    exact ⟨x,h5,mv h6⟩⟩
  ·obtain ⟨h3,h4,h5⟩:=hex (by omega) h1 h2
   obtain ⟨b1,b2⟩:=hsr.cells r R l h3 h4 i hi
   exact ⟨b1,fun j hj=>by
    obtain ⟨x,h6,h7⟩:=b2 j hj
    exact ⟨x,by rw [cellf_same h5]; exact h6,hg2.rel h7⟩⟩
 ·intro r R h1 h2
  by_cases hr:r<ρ.length
  ·rw [List.getElem?_append_left (by omega)] at h1
   rw [hβ2,← hg.hβ r hr] at h2
   exact hs.phantom r R h1 h2
  ·have h4:(ρ ++ ext)[r]?=some (some R):=by
    rw [List.getElem?_append_right (by omega)] at h1
    rw [List.getElem?_append_right (by omega),← hl0]; exact h1
   rw [hβ2] at h2
   exact hsr.phantom r R h4 h2
 ·intro r q R S l m h1 h2 h3 h4 he
  by_cases hr:r<ρ.length <;> by_cases hq:q<ρ.length
  ·obtain ⟨a1,a2⟩:=hin hr h1 h3
   obtain ⟨b1,b2⟩:=hin hq h2 h4
   exact hs.inj r q R S l m a1 b1 a2 b2 he
  ·obtain ⟨a1,a2⟩:=hin hr h1 h3
   obtain ⟨b1,b2,_⟩:=hex (by omega) h2 h4
   exact ((hs.real r R l a1 a2).2.2.2 (.inl (.inr ⟨q,S,m,by omega,b1,b2,he.symm⟩))).elim
  ·obtain ⟨a1,a2⟩:=hin hq h2 h4
   obtain ⟨b1,b2,_⟩:=hex (by omega) h1 h3
   exact ((hs.real q S m a1 a2).2.2.2 (.inl (.inr ⟨r,R,l,by omega,b1,b2,he⟩))).elim
  ·obtain ⟨a1,a2,_⟩:=hex (by omega) h1 h3
   obtain ⟨b1,b2,_⟩:=hex (by omega) h2 h4
   exact hsr.inj r q R S l m a1 b1 a2 b2 he
 ·exact hs.ilt
 ·intro b hb
  rcases hb with hb | hb
  ·exact Nat.lt_of_lt_of_le (hsr.flt b hb) hg.hz
  ·exact Γ.lt hd b hb
 ·intro r R l h1 h2 o
  by_cases hr:r<ρ.length
  ·obtain ⟨h3,h4⟩:=hin hr h1 h2
   exact hs.thaw r R l h3 h4 o
  ·obtain ⟨h3,h4,h5⟩:=hex (by omega) h1 h2
   rw [frozen_same h5]; exact hsr.thaw r R l h3 h4 o
 ·intro r R o h1 h2
  by_cases hr:r<ρ.length
  ·rw [List.getElem?_append_left (by omega)] at h1
   obtain ⟨e,l,x,h3,h4,h5⟩:=hs.obs r R o h1 h2
   exact ⟨e,l,x,by rw [hβ2,← hg.hβ r hr]; exact h3,h4,h5.mono fun a v=>mv⟩
  ·have h4:(ρ ++ ext)[r]?=some (some R):=by
    rw [List.getElem?_append_right (by omega)] at h1
    rw [List.getElem?_append_right (by omega),← hl0]; exact h1
   obtain ⟨e,l,x,h5,h6,h7⟩:=hsr.obs r R o h4 h2
   refine ⟨e,l,x,by rw [hβ2]; exact h5,?_,h7.mono fun a v=>hg2.rel⟩
   rw [hF2' _ (.inr ⟨r,R,l,by omega,h4,h5,rfl⟩) fun hm=>(hsr.real r R l h4 h5).2.2.2 (hMF _ hm)]; exact h6
end
end Go.Lg

namespace Go.Lg
open Go.RowKit
variable {P:Program}

def noX:CX:=fun _=>none
theorem noX_sound {Γ:Ghost} {γ:GS→Γ.S}:SoundXH P Γ γ noX:=fun g h hh=>nomatch hh
noncomputable def bodyZ (zf:Bool) (ox:OX) (P:Program) (cs:CSpec) (cx:CX) (ys:YS) (ic:IC) (sp:Nat→Option HSpec) (isp:Nat→Option ISpecR) (f:FuncId) (args:List SV) (X:XS) (q:GS) (K:Nat→List ResultVar→FS→XS→GS→Prop):Prop:=match P.funcs[f]? with
 | some fn=>(match fn.body with
  | some c=>ifP (Nat.ble fn.ntmps 512 && Nat.ble args.length fn.ntmps) (forceNat fn.ntmps fun n=>WH P cs cx ys ic ox sp isp n c 0 X.n zf (fun e t X q=>match e with
   | .normal=>K n fn.results.toList t X q
   | .ret=>K n fn.results.toList t X q
   | _=>False) (frmS n args 0 .nil) X q)
  | none=>False)
 | none=>False
theorem bodyZ_spec {zf:Bool} {ox:OX} (hox:SoundO P ox) {Γ:Ghost} {γ:GS→Γ.S} {cs:CSpec} {cx:CX} {ys:YS} {ic:IC} (hcs:SoundS P cs) (hcx:SoundXH P Γ γ cx) (hys:SoundYH P Γ γ ys) (hic:SoundIH P ic) (hm:P.follows .mixedOrders=true) {sp:Nat→Option HSpec} {isp:Nat→Option ISpecR} {f:FuncId} {args:List SV} {X:XS} {q:GS} {K:Nat→List ResultVar→FS→XS→GS→Prop} (hX:X.n<512) (h:bodyZ zf ox P cs cx ys ic sp isp f args X q K) :
  ∃ fn c,P.funcs[f]?=some fn∧fn.body=some c∧fn.ntmps≤512∧∀ H:HC,H.C.rd=none→H.C.n0=X.den.length→H.C.rg=true→(zf=true→H.C.own)→wpH P H Γ c (fun e s' A' ρ'=>(e=.normal∨e=.ret)∧∃ t X' q',s'=γ q'∧A'=frD fn.ntmps t∧ρ'=X'.den∧X'.n<512∧K fn.ntmps fn.results.toList t X' q') (γ q) (SV.denL args ++ List.replicate (fn.ntmps - (SV.denL args).length) .any) X.den:=by
 unfold bodyZ at h
 split at h
 ·rename_i fn hf
  split at h
  ·rename_i c hb
   obtain ⟨hc,h⟩:=ifP_spec h
   simp only [Bool.and_eq_true,Nat.ble_eq] at hc
   obtain ⟨hn,ha⟩:=hc
   rw [forceNat_eq] at h
   refine ⟨fn,c,hf,hb,hn,fun H _ h0 hrg hz=>?_⟩
   rw [← frmS_den hn args ha]
   refine WH_sound hcs hcx hys hic hm hn hox c hX h H _ (by rw [h0,XS.length]; exact Nat.le_refl _) hrg hz fun e t X q hX hk=>?_
   cases e with
   | normal=>exact ⟨.inl rfl,t,X,q,rfl,rfl,rfl,hX,hk⟩
   | ret=>exact ⟨.inr rfl,t,X,q,rfl,rfl,rfl,hX,hk⟩
   | _=>exact hk.elim
  ·exact h.elim
 ·exact h.elim

noncomputable def bodyH (P:Program) (cs:CSpec) (cx:CX) (ys:YS) (ic:IC) (sp:Nat→Option HSpec) (isp:Nat→Option ISpecR) (f:FuncId) (args:List SV) (X:XS) (q:GS) (K:Nat→List ResultVar→FS→XS→GS→Prop):Prop:=bodyZ false noO P cs cx ys ic sp isp f args X q K
theorem bodyH_spec {Γ:Ghost} {γ:GS→Γ.S} {cs:CSpec} {cx:CX} {ys:YS} {ic:IC} (hcs:SoundS P cs) (hcx:SoundXH P Γ γ cx) (hys:SoundYH P Γ γ ys) (hic:SoundIH P ic) (hm:P.follows .mixedOrders=true) {sp:Nat→Option HSpec} {isp:Nat→Option ISpecR} {f:FuncId} {args:List SV} {X:XS} {q:GS} {K:Nat→List ResultVar→FS→XS→GS→Prop} (hX:X.n<512) (h:bodyH P cs cx ys ic sp isp f args X q K) :
  ∃ fn c,P.funcs[f]?=some fn∧fn.body=some c∧fn.ntmps≤512∧∀ H:HC,H.C.rd=none→H.C.n0=X.den.length→H.C.rg=true→wpH P H Γ c (fun e s' A' ρ'=>(e=.normal∨e=.ret)∧∃ t X' q',s'=γ q'∧A'=frD fn.ntmps t∧ρ'=X'.den∧X'.n<512∧K fn.ntmps fn.results.toList t X' q') (γ q) (SV.denL args ++ List.replicate (fn.ntmps - (SV.denL args).length) .any) X.den:=by
 obtain ⟨fn,c,h1,h2,h3,h4⟩:=bodyZ_spec (zf:=false) noO_sound hcs hcx hys hic hm hX h
 exact ⟨fn,c,h1,h2,h3,fun H a b c=>h4 H a b c (fun e=>nomatch e)⟩

noncomputable def funH (P:Program) (cs:CSpec) (cx:CX) (ic:IC) (sp:Nat→Option HSpec) (isp:Nat→Option ISpecR) (f:FuncId) (args:List SV) (res:SV):Prop :=
 bodyH P cs cx none ic sp isp f args ⟨0,.nil⟩ none fun n rs t X q=>resS P (sev n t) X rs fun vs=>snapP X res (oneS vs) True
abbrev γ0:GS→noGhost.S:=fun _=>()
theorem funH_does {cs:CSpec} {cx:CX} {ic:IC} (hcs:SoundS P cs) (hcx:SoundXH P noGhost γ0 cx) (hic:SoundIH P ic) (hm:P.follows .mixedOrders=true) {sp:Nat→Option HSpec} {isp:Nat→Option ISpecR} {f:FuncId} {args:List SV} {res:SV} (h:funH P cs cx ic sp isp f args res):Does P f false (SV.denL args) res.den:=by
 obtain ⟨fn,c,hf,hb,hn,hw⟩:=bodyH_spec (Γ:=noGhost) (γ:=γ0) (ys:=none) hcs hcx trivial hic hm (by show 0<512; omega) h
 refine DoesH.toDoes (DoesH.of hf hb fun H h1 h2 h3=>wpH_mono (hw H h1 h2 h3) ?_)
 rintro e s A ρ ⟨he,t,X',q',-,rfl,rfl,hX,hk⟩
 obtain ⟨vs,h1,h2⟩:=resS_spec hk
 refine ⟨he,_,_,_,fun _ _ h=>h,h1,?_⟩
 rw [← oneS_den]; exact (snapP_spec _ _ h2).1

noncomputable def funZ (P:Program) (cs:CSpec) (cx:CX) (ic:IC) (sp:Nat→Option HSpec) (isp:Nat→Option ISpecR) (f:FuncId) (args:List SV) (res:SV):Prop :=
 bodyZ true noO P cs cx none ic sp isp f args ⟨0,.nil⟩ none fun n rs t X q=>resS P (sev n t) X rs fun vs=>snapP X res (oneS vs) True
noncomputable def itH (P:Program) (cs:CSpec) (cx:CX) (ic:IC) (sp:Nat→Option HSpec) (isp:Nat→Option ISpecR) (gf:FuncId) (fs us:List SV) (N:Nat) (f:Nat→List SV):Prop :=
 bodyH P cs cx (some (N,f)) ic sp isp gf (fs ++ (.yld 0 :: us)) ⟨1,.nil⟩ (some 0) fun n rs t X q=>resS P (sev n t) X rs fun _=>match q with
  | some j=>j=N
  | none=>True
theorem itH_ok {cs:CSpec} {cx:CX} {ic:IC} (hcs:SoundS P cs) {N:Nat} {f:Nat→List SV} (hcx:∀ (Γ:Ghost) (γ:GS→Γ.S),SoundYH P Γ γ (some (N,f))→SoundXH P Γ γ cx) (hic:SoundIH P ic) (hm:P.follows .mixedOrders=true) {sp:Nat→Option HSpec} {isp:Nat→Option ISpecR} {gf:FuncId} {fs us:List SV}
  (h:itH P cs cx ic sp isp gf fs us N f):IterOK P gf (SV.denL fs) (SV.denL us) N fun j=>SV.denL (f j):=by
 refine IterOK.of fun Γ l t e hl hy=>?_
 let γ:GS→Γ.S:=fun q=>match q with
  | some j=>t j
  | none=>e
 have hys:SoundYH P Γ γ (some (N,f)):=⟨l,hl,fun j hj=>(hy j hj).mono fun b s hs=>by rw [hs]; cases b <;> rfl⟩
 have hX:(⟨1,.nil⟩:XS).den=[none]:=rfl
 obtain ⟨fn,c,hf,hb,hn,hw⟩:=bodyH_spec (Γ:=Γ) (γ:=γ) hcs (hcx Γ γ hys) hys hic hm (by show 1<512; omega) h
 have ha:SV.denL (fs ++ (.yld 0 :: us))=SV.denL fs ++ [.yld 0] ++ SV.denL us:=by rw [denL_append]; simp [SV.denL,SV.den]
 rw [ha,hX] at hw
 refine DoesH.of hf hb fun H h1 h2 h3=>wpH_mono (hw H h1 h2 h3) ?_
 rintro x s A ρ ⟨he,t',X',q',rfl,rfl,rfl,hX,hk⟩
 obtain ⟨vs,h1,h2⟩:=resS_spec hk
 refine ⟨he,_,_,_,fun _ _ h=>h,h1,?_⟩
 cases q' with
 | none=>exact .inr rfl
 | some j=>exact .inl (by show t j=t N; rw [h2])

noncomputable def inlF (P:Program) (cs:CSpec) (cx:CX) (ys:YS) (ic:IC) (sp:Nat→Option HSpec) (isp:Nat→Option ISpecR) (g:FuncId) (args:List SV) (X:XS) (q:GS) (k:KVH):Prop :=
 ifP (callable P g) (bodyH P cs cx ys ic sp isp g args X q fun n rs t X q=>resS P (sev n t) X rs fun vs=>k (oneS vs) X q)
theorem inlF_spec {Γ:Ghost} {γ:GS→Γ.S} {cs:CSpec} {cx:CX} {ys:YS} {ic:IC} (hcs:SoundS P cs) (hcx:SoundXH P Γ γ cx) (hys:SoundYH P Γ γ ys) (hic:SoundIH P ic) (hm:P.follows .mixedOrders=true) {sp:Nat→Option HSpec} {isp:Nat→Option ISpecR} {g:FuncId} {args:List SV} {X:XS} {q:GS} {k:KVH} (hX:X.n<512) (h:inlF P cs cx ys ic sp isp g args X q k) :
  callable P g=true∧DoesH P Γ g (SV.denL args) (γ q) X.den fun v s ρ'=>∃ (v':SV) (X':XS) (q':GS),v=v'.den∧s=γ q'∧ρ'=X'.den∧X'.n<512∧k v' X' q':=by
 obtain ⟨hc,h⟩:=ifP_spec h
 refine ⟨hc,?_⟩
 obtain ⟨fn,c,hf,hb,hn,hw⟩:=bodyH_spec (Γ:=Γ) (γ:=γ) hcs hcx hys hic hm hX h
 refine DoesH.of hf hb fun H h1 h2 h3=>wpH_mono (hw H h1 h2 h3) ?_
 rintro x s A ρ ⟨he,t',X',q',rfl,rfl,rfl,hX,hk⟩
 obtain ⟨vs,h1,h2⟩:=resS_spec hk
 exact ⟨he,_,_,_,fun _ _ h=>h,h1,oneS vs,X',q',(oneS_den vs).symm,rfl,rfl,hX,h2⟩
noncomputable def inl (P:Program) (cs:CSpec) (ys:YS) (ic:IC) (g:FuncId) (sp:Nat→Option HSpec) (isp:Nat→Option ISpecR) (cx:CX):CX:=fun g'=>match Nat.beq g' g with
 | true=>some (inlF P cs cx ys ic sp isp g)
 | false=>cx g'
theorem inl_sound {Γ:Ghost} {γ:GS→Γ.S} {cs:CSpec} {cx:CX} {ys:YS} {ic:IC} (hcs:SoundS P cs) (hcx:SoundXH P Γ γ cx) (hys:SoundYH P Γ γ ys) (hic:SoundIH P ic) (hm:P.follows .mixedOrders=true) {sp:Nat→Option HSpec} {isp:Nat→Option ISpecR} {g:FuncId} :
  SoundXH P Γ γ (inl P cs ys ic g sp isp cx):=by
 intro g' h hh args X q k hX hk
 unfold inl at hh
 split at hh
 ·rename_i hb
  obtain rfl:g'=g:=by simpa using hb
  cases hh
  exact inlF_spec hcs hcx hys hic hm hX hk
 ·exact hcx g' h hh args X q k hX hk

structure ICtr where
 f:FuncId
 c:List SV→List SV→(Nat→Nat→(Nat→List SV)→Prop)→Prop
def ICtr.Ok (P:Program) (x:ICtr):Prop:=callable P x.f=true∧∀ fs us k,x.c fs us k→∃ n m f,IterOK P x.f (SV.denL fs) (SV.denL us) n (fun j=>SV.denL (f j))∧(∀ j,j<n→(f j).length=m)∧k n m f
noncomputable def ictrs (l:List ICtr):IC:=fun g fs us k=>List.rec (motive:=fun _=>Prop) False (fun x _ ih=>match Nat.beq x.f g with
 | true=>x.c fs us k
 | false=>ih) l
theorem ictrs_sound {l:List ICtr} (h:∀ x ∈ l,x.Ok P):SoundIH P (ictrs l):=by
 intro g fs us k hk
 induction l with
 | nil=>exact hk.elim
 | cons x l ih =>
  have hk2:(match Nat.beq x.f g with
   | true=>x.c fs us k
   | false=>ictrs l g fs us k):=hk
  split at hk2
  ·rename_i hb
   obtain rfl:x.f=g:=by simpa using hb
   obtain ⟨hc,ho⟩:=h x (by simp)
   exact ⟨hc,ho _ _ _ hk2⟩
  ·exact ih (fun x hx=>h x (by simp [hx])) hk2

mutual
noncomputable def eqD:SV→SV→Prop→Prop
 | .any,v,k=>(match v with
  | .any=>k
  | _=>False)
 | .int K' z',v,k=>(match v with
  | .int K z=>ifP (kindEq K K') (z=z'∧k)
  | _=>False)
 | .dec p' _,v,k=>(match v with
  | .dec p _=>(p↔p')∧k
  | .bool b=>(b=true↔p')∧k
  | _=>False)
 | .bool b',v,k=>(match v with
  | .dec p _=>(p↔b'=true)∧k
  | .bool b=>b=b'∧k
  | _=>False)
 | .val u',v,k=>(match v with
  | .val u=>u=u'∧k
  | _=>False)
 | .ptd ..,_,_=>False
 | .ipd ..,_,_=>False
 | .ptr r' i' j',v,k=>(match v with
  | .ptr r i j=>ifP (Nat.beq r r') (i=i'∧j=j'∧k)
  | _=>False)
 | .sl r' o' n',v,k=>(match v with
  | .sl r o n=>ifP (Nat.beq r r') (o=o'∧n=n'∧k)
  | _=>False)
 | .lst s' n' f',v,k=>(match v with
  | .lst s n f=>ifP (Nat.beq s s') (n=n'∧(∀ i,i<n'→(f i).den=(f' i).den)∧k)
  | _=>False)
 | .agg c',v,k=>(match v with
  | .agg c=>eqDL c' c k
  | _=>False)
 | .ipt c',v,k=>(match v with
  | .ipt c=>eqDL c' c k
  | _=>False)
 | .clo fn' a' b',v,k=>(match fn' with
  | .func g'=>(match v with
   | .clo fn a b=>(match fn with
    | .func g=>ifP (Nat.beq g g') (eqDL a' a (eqDL b' b k))
    | _=>False)
   | _=>False)
  | _=>False)
 | .mp r',v,k=>(match v with
  | .mp r=>ifP (Nat.beq r r') k
  | _=>False)
 | .yld r',v,k=>(match v with
  | .yld r=>ifP (Nat.beq r r') k
  | _=>False)
 | _,_,_=>False
noncomputable def eqDL:List SV→List SV→Prop→Prop
 | [],c,k=>(match c with
  | []=>k
  | _=>False)
 | x' :: xs',c,k=>(match c with
  | x :: xs=>eqD x' x (eqDL xs' xs k)
  | []=>False)
end
mutual
theorem eqD_spec:∀ (v' v:SV) {k:Prop},eqD v' v k→v.den=v'.den∧k
 | .any,v,k,h=>by
  cases v <;> simp only [eqD] at h
  exact ⟨rfl,h⟩
 | .int K' z',v,k,h=>by
  cases v <;> simp only [eqD] at h
  case int K z =>
   obtain ⟨h1,rfl,hk⟩:=ifP_spec h
   have:=kindEq_spec h1
   subst this
   exact ⟨rfl,hk⟩
 | .dec p' i',v,k,h=>by
  cases v <;> simp only [eqD] at h
  case dec p i=>exact ⟨by simp only [SV.den]; congr 2; simp [h.1],h.2⟩
  case bool b=>exact ⟨by simp only [SV.den]; congr 2; have:=h.1; cases b <;> simp_all,h.2⟩
 | .bool b',v,k,h=>by
  cases v <;> simp only [eqD] at h
  case dec p i=>exact ⟨by simp only [SV.den]; congr 2; have:=h.1; cases b' <;> simp_all,h.2⟩
  case bool b =>
   obtain ⟨rfl,hk⟩:=h
   exact ⟨rfl,hk⟩
 | .val u',v,k,h=>by
  cases v <;> simp only [eqD] at h
  case val u =>
   obtain ⟨rfl,hk⟩:=h
   exact ⟨rfl,hk⟩
 | .ptd ..,v,k,h=>by simp [eqD] at h
 | .ipd ..,v,k,h=>by simp [eqD] at h
 | .ptr r' i' j',v,k,h=>by
  cases v <;> simp only [eqD] at h
  case ptr r i j =>
   obtain ⟨h1,rfl,rfl,hk⟩:=ifP_spec h
   obtain rfl:r=r':=Nat.eq_of_beq_eq_true h1
   exact ⟨rfl,hk⟩
 | .sl r' o' n',v,k,h=>by
  cases v <;> simp only [eqD] at h
  case sl r o n =>
   obtain ⟨h1,rfl,rfl,hk⟩:=ifP_spec h
   obtain rfl:r=r':=Nat.eq_of_beq_eq_true h1
   exact ⟨rfl,hk⟩
 | .lst s' n' f',v,k,h=>by
  cases v <;> simp only [eqD] at h
  case lst s n f =>
   obtain ⟨h1,rfl,h2,hk⟩:=ifP_spec h
   obtain rfl:s=s':=Nat.eq_of_beq_eq_true h1
   refine ⟨?_,hk⟩
   simp only [SV.den]; congr 1
   exact List.map_congr_left fun i hi=>h2 i (by simpa using hi)
 | .agg c',v,k,h=>by
  cases v <;> simp only [eqD] at h
  case agg c =>
   obtain ⟨h1,hk⟩:=eqDL_spec c' c h
   exact ⟨by simp only [SV.den,h1],hk⟩
 | .ipt c',v,k,h=>by
  cases v <;> simp only [eqD] at h
  case ipt c =>
   obtain ⟨h1,hk⟩:=eqDL_spec c' c h
   exact ⟨by simp only [SV.den,h1],hk⟩
 | .clo fn' a' b',v,k,h=>by
  simp only [eqD] at h
  split at h
  ·split at h
   ·split at h
    ·rename_i g
     obtain ⟨h1,q1⟩:=ifP_spec h
     obtain rfl:g=_:=Nat.eq_of_beq_eq_true h1
     obtain ⟨h2,q2⟩:=eqDL_spec a' _ q1
     obtain ⟨h3,q3⟩:=eqDL_spec b' _ q2
     exact ⟨by simp only [SV.den,h2,h3],q3⟩
    ·exact h.elim
   ·exact h.elim
  ·exact h.elim
 | .mp r',v,k,h=>by
  cases v <;> simp only [eqD] at h
  case mp r =>
   obtain ⟨h1,hk⟩:=ifP_spec h
   obtain rfl:r=r':=Nat.eq_of_beq_eq_true h1
   exact ⟨rfl,hk⟩
 | .yld r',v,k,h=>by
  cases v <;> simp only [eqD] at h
  case yld r =>
   obtain ⟨h1,hk⟩:=ifP_spec h
   obtain rfl:r=r':=Nat.eq_of_beq_eq_true h1
   exact ⟨rfl,hk⟩
 | .sub ..,v,k,h=>by simp [eqD] at h
 | .tup _,v,k,h=>by simp [eqD] at h
 | .ifc ..,v,k,h=>by simp [eqD] at h
theorem eqDL_spec:∀ (c' c:List SV) {k:Prop},eqDL c' c k→SV.denL c=SV.denL c'∧k
 | [],c,k,h=>by
  cases c with
  | nil=>exact ⟨rfl,by simpa [eqDL] using h⟩
  | cons x c=>simp [eqDL] at h
 | x' :: xs',c,k,h=>by
  cases c with
  | nil=>simp [eqDL] at h
  | cons x xs =>
   simp only [eqDL] at h
   obtain ⟨h1,h⟩:=eqD_spec x' x h
   obtain ⟨h3,h⟩:=eqDL_spec xs' xs h
   exact ⟨by simp only [SV.denL,h1,h3],h⟩
end
theorem BelS.of {n:Nat}:∀ {ρ:Store},(∀ (r:Nat) (R:Root),ρ[r]?=some (some R)→BelL n R.els∧BelQ n R.ob)→BelS n ρ
 | [],_=>trivial
 | none :: r,h=>BelS.of (ρ:=r) fun i R hi=>h (i+1) R (by simpa using hi)
 | some R :: r,h=>⟨h 0 R (by simp),BelS.of (ρ:=r) fun i R hi=>h (i+1) R (by simpa using hi)⟩
def StOK (P:Program) (f:FuncId) (X0:XS) (args:List SV) (res:SV):Prop:=∀ ext,DoesS P f (SV.denL args) (X0.den ++ ext) fun v ρ=>v=res.den∧ρ=X0.den ++ ext
structure SCtr where
 f:FuncId
 p:Type
 pre:p→Prop
 X0:p→XS
 args:p→List SV
 res:p→SV
 rd:List SV→XS→(p→Prop)→Prop
 rdOK:∀ a X k,rd a X k→∃ s,k s
def SCtr.Ok (P:Program) (x:SCtr):Prop:=callable P x.f=true∧∀ p,x.pre p→StOK P x.f (x.X0 p) (x.args p) (x.res p)
end Go.Lg

namespace Go.Lg
noncomputable def mkF (n : Nat) (l : List (Nat × SV)) : FS := List.rec (motive := fun _ => FS) .nil (fun p _ ih => sset n ih p.1 p.2) l
noncomputable def mkX (l : List (Option SRow)) : XS := List.rec (motive := fun _ => XS → XS) (fun X => X) (fun x _ ih X => ih (X.push x)) l ⟨0, .nil⟩
abbrev i6 (z : Int) : SV := .int .i64 z
def vr (sz : Nat) (v : SV) : Option SRow := some ⟨sz, 1, fun _ => v, true⟩
def rw' (sz n : Nat) (f : Nat → SV) : Option SRow := some ⟨sz, n, f, false⟩
theorem rdI {n i : Nat} (t : FS) (X : XS) (k : Nat → Prop) (h : (match sget n t i with
    | .int _ z => k z.toNat
    | _ => False)) : ∃ s, k s := by
  split at h
  · exact ⟨_, h⟩
  · exact h.elim
noncomputable def natH (inv : Nat → Prop) (μ : Nat → Nat) (nr : Nat) (t : Nat → FS) (X : Nat → XS) (q : Nat → GS) : HSpec :=
  { toLSpec := { σ := Nat, inv := inv, μ := μ, nr := nr, ms := fun _ _ => [], t := t, X := X, rd := fun _ _ k => ∃ z, k z, rdOK := fun _ _ _ h => h }, q := q }
noncomputable def filH (n s1 : Nat) (inv0 inv1 : Nat → Prop) (μ : Nat → Nat) (nr : Nat) (t0 t1 : Nat → FS) (X0 X1 : Nat → XS) : HSpec :=
  { toLSpec := { σ := Bool × Nat
                 inv := fun z => match z.1 with
                   | false => inv0 z.2
                   | true => inv1 z.2
                 μ := fun z => μ z.2
                 nr := nr
                 t := fun z => match z.1 with
                   | false => t0 z.2
                   | true => t1 z.2
                 X := fun z => match z.1 with
                   | false => X0 z.2
                   | true => X1 z.2
                 rd := fun t _ k => match sget n t s1 with
                   | .sl _ _ _ => ∃ z, k (true, z)
                   | _ => ∃ z, k (false, z)
                 rdOK := fun t _ k h => by
                   revert h
                   cases sget n t s1 <;> exact fun h => h.elim fun z h => ⟨_, h⟩
                 ms := fun t _ => match sget n t s1 with
                   | .sl r _ _ => [some r]
                   | _ => [] }
    al := fun k => (∀ z, k (false, z)) ∧ ∀ z, k (true, z)
    alOK := fun k h z => match z with
      | (false, z) => h.1 z
      | (true, z) => h.2 z }
noncomputable def itS (nr : Nat) (inv : Nat → Prop) (t : FS) (X : Nat → XS) (q : Nat → GS) : ISpecR := { τ := Unit, rdt := fun _ _ k => k (), rdtOK := fun _ _ _ h => ⟨(), h⟩, s := fun _ => {
  σ := Nat
  inv := fun j z => z = j ∧ inv j
  nr := nr
  ms := fun _ _ => []
  t := t
  X := X
  q := fun j _ => q j
  rd := fun _ _ k => ∃ z, k z
  rdOK := fun _ _ _ h => h } }
def oneL {α : Type 1} (i : Nat) (s : α) : Nat → Option α := fun j => match Nat.beq j i with
  | true => some s
  | false => none
def twoL {α : Type 1} (i : Nat) (s : α) (r : Nat → Option α) : Nat → Option α := fun j => match Nat.beq j i with
  | true => some s
  | false => r j
def noL {α : Type 1} : Nat → Option α := fun _ => none
def prI : SV → Int
  | .int _ z => z
  | _ => 0
def cells' : SV → List SV
  | .agg c => c
  | .ipt c => c
  | _ => []
def nth' : List SV → Nat → SV
  | [], _ => .any
  | x :: _, 0 => x
  | _ :: xs, i + 1 => nth' xs i
def lenV : SV → Nat
  | .lst _ n _ => n
  | _ => 0
def eltV : SV → Nat → SV
  | .lst _ _ f => f
  | _ => fun _ => .any
end Go.Lg

namespace Go.Lg
open Go.RowKit
variable {P:Program}

inductive RowA:AV→Prop
 | any:RowA .any
 | sc (v:Value):RowA (.sc v)
 | sl (r o n:Nat):RowA (.sl r o n)
 | agg (c:List AV) (h:∀ j,j<c.length→RowA (c.getD j .any)):RowA (.agg c)
 | tup (c:List AV) (h:∀ j,j<c.length→RowA (c.getD j .any)):RowA (.tup c)
inductive FlatA:AV→Prop
 | any:FlatA .any
 | sc (v:Value):FlatA (.sc v)
 | isl (sz:Nat) (L:List AV) (h:∀ i,i<L.length→∀ j,j<sz→∃ v,(L.getD i .any).cells.getD j .any=.sc v):FlatA (.isl sz L)
 | agg (c:List AV) (h:∀ j,j<c.length→FlatA (c.getD j .any)):FlatA (.agg c)
 | tup (c:List AV) (h:∀ j,j<c.length→FlatA (c.getD j .any)):FlatA (.tup c)
theorem RowA.pure {a:AV} (h:RowA a) (hp:Pure a) {c I I' N β v} (hv:Rel c I N β a v):Rel c I' 0 noβ a v:=by
 induction h generalizing v with
 | any=>exact .any v
 | sc u=>cases hv; exact .sc _
 | sl r o n=>cases hp
 | agg cs h ih =>
  cases hp with
  | agg _ hp =>
   cases hv with
   | agg _ vs hn hv=>exact .agg _ _ hn fun j hj=>ih j hj (hp j hj) (hv j hj)
 | tup cs h ih =>
  cases hp with
  | tup _ hp =>
   cases hv with
   | tup _ vs hn hv=>exact .tup _ _ hn fun j hj=>ih j hj (hp j hj) (hv j hj)
theorem SnapP.relN {D ρ a a' w F I β v} (h:SnapP D ρ a a') (hr:RowA a) (hq:FlatA a') (hs:SR w F I β ρ) (hv:Rel (cellf w) I ρ.length β a v):Rel (cellf w) (withLiveP D (fun _=>False) β ρ) 0 noβ a' v:=by
 induction h generalizing v with
 | pure a hp=>exact hr.pure hp hv
 | nil sz=>cases hv; exact .islz sz none
 | sl r o n R L hR ho hL hz h hm ih =>
  cases hq with
  | isl _ _ hq =>
  rcases hv.sl_inv with ⟨cap,l,hr,hl,hn,hc,rfl⟩ | ⟨rfl,aa,rfl,_⟩
  ·have esz:=(hs.real r R l hR hl).1
   have key:∀ i,i<n→∀ j,j<R.sz→∃ u,cellf w l.b (l.off+o*l.sz+i*R.sz+j)=some u∧Rel (cellf w) (withLiveP D (fun _=>False) β ρ) 0 noβ ((L.getD i .any).cells.getD j .any) u:=by
    intro i hi j hj
    obtain ⟨_,hcc⟩:=hs.cells r R l hR hl (o+i) (by omega)
    obtain ⟨u,h1,h2⟩:=hcc j hj
    refine ⟨u,?_,?_⟩
    ·rw [esz,show l.off+o*R.sz+i*R.sz+j=l.off+(o+i)*R.sz+j by rw [Nat.add_mul]; omega]; exact h1
    ·obtain ⟨x,hx⟩:=hq i (by omega) j hj
     have hc:=h i hi j hj
     rw [hx] at hc ⊢
     generalize ((R.els.getD (o+i) .any).cells.getD j .any)=y at hc h2
     cases hc with
     | pure _ _=>cases h2; exact .sc _
   subst hL
   refine .isl R.sz L l.b _ cap (fun i j=>(cellf w l.b (l.off+o*l.sz+i*R.sz+j)).getD undef) (.inr ⟨r,R,l,hm,hR,hl,rfl⟩) hn hz (fun i hi j hj=>?_) (fun i hi j hj=>?_)
   ·obtain ⟨u,h1,_⟩:=key i hi j hj
    simp [h1]
   ·obtain ⟨u,h1,h2⟩:=key i hi j hj
    simpa [h1] using h2
  ·have:L=[]:=List.eq_nil_of_length_eq_zero hL
   subst this; exact .islz _ _
 | ptr r i j R cs hR hi hl h hm ih=>cases hr
 | sub r i j sz n R L hR hi hl hL hz h hm ih=>cases hr
 | agg c c' hl h ih =>
  cases hv with
  | agg _ vs hn hv =>
   cases hr with
   | agg _ hr =>
    cases hq with
    | agg _ hq=>exact .agg _ _ (by omega) (fun j hj=>ih j (by omega) (hr j (by omega)) (hq j hj) (hv j (by omega)))
 | tup c c' hl h ih =>
  cases hv with
  | tup _ vs hn hv =>
   cases hr with
   | tup _ hr =>
    cases hq with
    | tup _ hq=>exact .tup _ _ (by omega) (fun j hj=>ih j (by omega) (hr j (by omega)) (hq j hj) (hv j (by omega)))
 | clo fn fs fs' cs cs' hl h hl' h' ih ih'=>cases hr
 | ifc t a a' h ih=>cases hr
theorem DoesH.toDoesN {f args res} (h:DoesH P noGhost f args () [] (fun a s r=>SnapN 0 r a res∧RowA a)) (hq:FlatA res):Does P f true args res:=by
 intro w I vals hI hrel
 have hsr:SR w (fun b=>b<w.heap.size) I noβ []:=⟨fun r R l h=>by simp at h,fun r R l h=>by simp at h,fun r R h=>by simp at h,fun r s R S l m h=>by simp at h,hI,fun b hb=>hb,fun r R l h=>by simp at h,fun r R o h=>by simp at h⟩
 refine (h w _ I (fun _=>False) noβ vals hsr (fun b hb=>hb.elim) (fun b hb=>.inr fun h=>h) (fun b hb=>hb) (fun l hl=>by cases hl) hrel).mono ?_
 rintro e w' ⟨u,a,s,r,I',β',M',rfl,⟨hs,hrow⟩,hk,hg,hs',m1,m2,m3,hd,hr⟩
 refine ⟨u,withLiveP (fun r=>0≤r) (fun _=>False) β' r,rfl,hk.sub (fun b hb=>⟨hb,fun h=>h⟩),fun b hb=>?_,fun b hb=>?_,SnapP.relN hs hrow hq hs' hr⟩
 ·rcases hb with hb | ⟨r,R,l,_,h1,h2,rfl⟩
  ·exact hb.elim
  ·exact (hs'.real r R l h1 h2).2.1
 ·rcases hb with hb | ⟨r,R,l,_,h1,h2,rfl⟩
  ·exact hb.elim
  ·exact .inr (Nat.le_of_not_lt (fun hlt=>(hs'.real r R l h1 h2).2.2.2 (.inl hlt)))
mutual
def rowS:SV→Prop→Prop
 | .any,k=>k
 | .int ..,k=>k
 | .dec ..,k=>k
 | .bool _,k=>k
 | .val _,k=>k
 | .sl ..,k=>k
 | .agg c,k=>rowSL c k
 | .tup c,k=>rowSL c k
 | _,_=>False
def rowSL:List SV→Prop→Prop
 | [],k=>k
 | x :: xs,k=>rowS x (rowSL xs k)
end
mutual
theorem rowS_spec:∀ (v:SV) {k:Prop},rowS v k→RowA v.den∧k
 | .any,k,h=>⟨.any,by simpa only [rowS] using h⟩
 | .int ..,k,h=>⟨.sc _,by simpa only [rowS] using h⟩
 | .dec ..,k,h=>⟨.sc _,by simpa only [rowS] using h⟩
 | .bool _,k,h=>⟨.sc _,by simpa only [rowS] using h⟩
 | .val _,k,h=>⟨.sc _,by simpa only [rowS] using h⟩
 | .sl ..,k,h=>⟨.sl ..,by simpa only [rowS] using h⟩
 | .agg c,k,h=>by
  obtain ⟨h1,h2⟩:=rowSL_spec c (by simpa only [rowS] using h)
  exact ⟨.agg _ h1,h2⟩
 | .tup c,k,h=>by
  obtain ⟨h1,h2⟩:=rowSL_spec c (by simpa only [rowS] using h)
  exact ⟨.tup _ h1,h2⟩
 | .ptr ..,k,h=>by simp [rowS] at h
 | .ptd ..,k,h=>by simp [rowS] at h
 | .ipd ..,k,h=>by simp [rowS] at h
 | .sub ..,k,h=>by simp [rowS] at h
 | .lst ..,k,h=>by simp [rowS] at h
 | .ipt ..,k,h=>by simp [rowS] at h
 | .clo ..,k,h=>by simp [rowS] at h
 | .yld ..,k,h=>by simp [rowS] at h
 | .mp ..,k,h=>by simp [rowS] at h
 | .ifc ..,k,h=>by simp [rowS] at h
theorem rowSL_spec:∀ (c:List SV) {k:Prop},rowSL c k→(∀ j,j<(SV.denL c).length→RowA ((SV.denL c).getD j .any))∧k
 | [],k,h=>⟨fun j hj=>by simp [SV.denL] at hj,by simpa only [rowSL] using h⟩
 | x :: xs,k,h=>by
  obtain ⟨h1,h⟩:=rowS_spec x (by simpa only [rowSL] using h)
  obtain ⟨h2,h⟩:=rowSL_spec xs h
  refine ⟨fun j hj=>?_,h⟩
  cases j with
  | zero=>exact h1
  | succ j=>exact h2 j (by simpa [SV.denL] using hj)
end
def scS:SV→Bool
 | .int ..=>true
 | .dec ..=>true
 | .bool _=>true
 | .val _=>true
 | _=>false
mutual
def flatS:SV→Prop
 | .any=>True
 | .int ..=>True
 | .dec ..=>True
 | .bool _=>True
 | .val _=>True
 | .lst sz n f=>∀ i,i<n→(f i).cells.length=sz∧(f i).cells.all scS=true
 | .agg c=>flatSL c
 | .tup c=>flatSL c
 | _=>False
def flatSL:List SV→Prop
 | []=>True
 | x :: xs=>flatS x∧flatSL xs
end
theorem scS_den {v:SV} (h:scS v=true):∃ u,v.den=.sc u:=by
 cases v <;> first | exact ⟨_,rfl⟩ | (simp [scS] at h)
mutual
theorem flatS_spec:∀ (v:SV),flatS v→FlatA v.den
 | .any,_=>.any
 | .int ..,_=>.sc _
 | .dec ..,_=>.sc _
 | .bool _,_=>.sc _
 | .val _,_=>.sc _
 | .lst sz n f,h=>by
  refine .isl _ _ fun i hi j hj=>?_
  simp at hi
  obtain ⟨h1,h2⟩:=h i hi
  have g:((List.range n).map fun i=>(f i).den).getD i .any=(f i).den:=by simp [List.getD,hi]
  rw [g,den_cells,denL_eq]
  have hj':j<(f i).cells.length:=by omega
  simp only [List.getD,List.getElem?_map]
  rw [List.getElem?_eq_getElem hj']
  exact scS_den (List.all_eq_true.1 h2 _ (List.getElem_mem hj'))
 | .agg c,h=>.agg _ (flatSL_spec c (by simpa only [flatS] using h))
 | .tup c,h=>.tup _ (flatSL_spec c (by simpa only [flatS] using h))
 | .ptr ..,h=>by simp [flatS] at h
 | .ptd ..,h=>by simp [flatS] at h
 | .ipd ..,h=>by simp [flatS] at h
 | .sub ..,h=>by simp [flatS] at h
 | .sl ..,h=>by simp [flatS] at h
 | .ipt ..,h=>by simp [flatS] at h
 | .clo ..,h=>by simp [flatS] at h
 | .yld ..,h=>by simp [flatS] at h
 | .mp ..,h=>by simp [flatS] at h
 | .ifc ..,h=>by simp [flatS] at h
theorem flatSL_spec:∀ (c:List SV),flatSL c→∀ j,j<(SV.denL c).length→FlatA ((SV.denL c).getD j .any)
 | [],_=>fun j hj=>by simp [SV.denL] at hj
 | x :: xs,h=>fun j hj=>by
  have h:flatS x∧flatSL xs:=by simpa only [flatSL] using h
  cases j with
  | zero=>exact flatS_spec x h.1
  | succ j=>exact flatSL_spec xs h.2 j (by simpa [SV.denL] using hj)
end
noncomputable def funN (P:Program) (cs:CSpec) (cx:CX) (ic:IC) (sp:Nat→Option HSpec) (isp:Nat→Option ISpecR) (f:FuncId) (args:List SV) (res:SV):Prop :=
 bodyH P cs cx none ic sp isp f args ⟨0,.nil⟩ none fun n rs t X q=>resS P (sev n t) X rs fun vs=>rowS (oneS vs) (snapP X res (oneS vs) True)
theorem funN_does {cs:CSpec} {cx:CX} {ic:IC} (hcs:SoundS P cs) (hcx:SoundXH P noGhost γ0 cx) (hic:SoundIH P ic) (hm:P.follows .mixedOrders=true) {sp:Nat→Option HSpec} {isp:Nat→Option ISpecR} {f:FuncId} {args:List SV} {res:SV} (h:funN P cs cx ic sp isp f args res) (hq:flatS res):Does P f true (SV.denL args) res.den:=by
 obtain ⟨fn,c,hf,hb,hn,hw⟩:=bodyH_spec (Γ:=noGhost) (γ:=γ0) (ys:=none) hcs hcx trivial hic hm (by show 0<512; omega) h
 refine DoesH.toDoesN (DoesH.of hf hb fun H h1 h2 h3=>wpH_mono (hw H h1 h2 h3) ?_) (flatS_spec _ hq)
 rintro e s A ρ ⟨he,t,X',q',-,rfl,rfl,hX,hk⟩
 obtain ⟨vs,h1,h2⟩:=resS_spec hk
 obtain ⟨h3,h4⟩:=rowS_spec _ h2
 refine ⟨he,_,_,_,fun _ _ h=>h,h1,?_,?_⟩
 ·rw [← oneS_den]; exact (snapP_spec _ _ h4).1
 ·rw [← oneS_den]; exact h3
end Go.Lg

namespace Go.Lg
open Go.RowKit
variable {P:Program}
noncomputable def endO (n sz:Nat) (rs:List ResultVar) (N':Nat) (h':Nat→SV) (t:FS) (X:XS):Prop:=match rs with
 | [.tmp a]=>(match sget n t a with
  | .sl j _ _=>ifP (Nat.blt a n) ((∀ i,i<N'→pureS (h' i))∧normZ true n 0 [some j] (sset n .nil a (.sl 0 0 N')) ((⟨0,.nil⟩:XS).push (some (rowO sz N' h'))) t X True)
  | _=>False)
 | _=>False
noncomputable def funO (P:Program) (cs:CSpec) (cx:CX) (ic:IC) (ox:OX) (sp:Nat→Option HSpec) (isp:Nat→Option ISpecR) (f:FuncId) (args:List SV) (sz N:Nat) (h:Nat→SV) (N':Nat) (h':Nat→SV):Prop:=match P.funcs[f]? with
 | some fn=>(match fn.body with
  | some c=>ifP (Nat.ble fn.ntmps 512 && Nat.ble args.length fn.ntmps) (forceNat fn.ntmps fun n=>forceX ((⟨0,.nil⟩:XS).push (some (rowO sz N h))) fun X0=>WH P cs cx none ic ox sp isp n c 0 0 true (fun e t X q=>match e with
   | .normal=>endO n sz fn.results.toList N' h' t X
   | .ret=>endO n sz fn.results.toList N' h' t X
   | _=>False) (frmS n args 0 .nil) X0 none)
  | none=>False)
 | none=>False
theorem endO_spec {H:HC} {Γ:Ghost} {s:Γ.S} {n sz:Nat} {rs:List ResultVar} {N':Nat} {h':Nat→SV} {t:FS} {X:XS} (hn:n≤512) (h0:H.C.n0=0) (hown:H.C.own) (h:endO n sz rs N' h' t X) :
  ∃ A'' ρ'' vs,(∀ a w,SRelH H Γ s a w (frD n t) X.den→SRelH H Γ s a w A'' ρ'')∧resA P A'' ρ'' rs vs∧∃ j n1 h1,one? vs=.sl j 0 n1∧ρ''[j]?=some (denR (some (rowO sz n1 h1)))∧(∀ i,i<n1→pureS (h1 i))∧n1=N'∧h1=h':=by
 have hX1:((⟨0,.nil⟩:XS).push (some (rowO sz N' h'))).den=[denR (some (rowO sz N' h'))]:=by
  rw [XS.push_den (by show 0<512; omega)]; rfl
 unfold endO at h
 split at h
 ·rename_i a
  split at h
  ·rename_i j _ _ _
   obtain ⟨ha,hp,hz⟩:=ifP_spec h
   have ha:a<n:=by simpa [Nat.blt_eq] using ha
   refine ⟨_,_,[.sl 0 0 N'],fun a w hs=>hs.normD (fun _=>hown) (normZ_spec (by omega) hz).1,⟨[],?_,rfl⟩,0,N',h',rfl,?_,hp,rfl,rfl⟩
   ·rw [← sset_den hn]
    simp [List.getD,frD_length,ha,SV.den]
   ·rw [hX1]; rfl
  ·exact h.elim
 ·exact h.elim
theorem funO_ok {cs:CSpec} {cx:CX} {ic:IC} {ox:OX} (hcs:SoundS P cs) (hcx:∀ (Γ:Ghost) (γ:GS→Γ.S),SoundXH P Γ γ cx) (hic:SoundIH P ic) (hox:SoundO P ox) (hm:P.follows .mixedOrders=true) {sp:Nat→Option HSpec} {isp:Nat→Option ISpecR} {f:FuncId} {args:List SV} {sz N:Nat} {h:Nat→SV} {N':Nat} {h':Nat→SV}
  (hh:funO P cs cx ic ox sp isp f args sz N h N' h'):DoesO P f (SV.denL args) [denR (some (rowO sz N h))] fun v ρ'=>∃ j n1 h1,v=.sl j 0 n1∧ρ'[j]?=some (denR (some (rowO sz n1 h1)))∧(∀ i,i<n1→pureS (h1 i))∧n1=N'∧h1=h':=by
 have hX0:((⟨0,.nil⟩:XS).push (some (rowO sz N h))).den=[denR (some (rowO sz N h))]:=by
  rw [XS.push_den (by show 0<512; omega)]; rfl
 unfold funO at hh
 split at hh
 ·rename_i fn hf
  split at hh
  ·rename_i c hb
   obtain ⟨hc,hh⟩:=ifP_spec hh
   simp only [Bool.and_eq_true,Nat.ble_eq] at hc
   obtain ⟨hn,ha⟩:=hc
   rw [forceNat_eq,forceX_eq] at hh
   refine DoesO.of hf hb fun w0 H h1 h2 h3 hown=>?_
   rw [← frmS_den hn args ha,← hX0]
   refine WH_sound (Γ:=memGhost w0) (γ:=fun _=>()) hcs (hcx _ _) (ys:=none) trivial hic hm hn hox c (by show 1<512; omega) hh H _ (by rw [h2]; exact Nat.le_refl _) h3 (fun _=>hown) fun e t X q hX hk=>?_
   cases e with
   | normal=>exact ⟨.inl rfl,endO_spec hn h2 hown hk⟩
   | ret=>exact ⟨.inr rfl,endO_spec hn h2 hown hk⟩
   | _=>exact hk.elim
  ·exact hh.elim
 ·exact hh.elim
structure OCtr where
 f:FuncId
 fn:OFn
def OCtr.Ok (P:Program) (x:OCtr):Prop:=callable P x.f=true∧∀ args N h k,x.fn.c args N h k→∃ N' h',k N' h' ∧
 DoesO P x.f (SV.denL args) [denR (some (rowO x.fn.sz N h))] fun v ρ'=>∃ j n1 h1,v=.sl j 0 n1∧ρ'[j]?=some (denR (some (rowO x.fn.sz n1 h1)))∧(∀ i,i<n1→pureS (h1 i))∧n1=N'∧h1=h'
noncomputable def octrs (l:List OCtr):OX:=fun g=>List.rec (motive:=fun _=>Option OFn) none (fun x _ ih=>match Nat.beq x.f g with
 | true=>some x.fn
 | false=>ih) l
theorem octrs_sound {l:List OCtr} (h:∀ x ∈ l,x.Ok P):SoundO P (octrs l):=by
 intro g y hg args N hh k hk
 induction l with
 | nil=>cases hg
 | cons x l ih =>
  have hg2:(match Nat.beq x.f g with
   | true=>some x.fn
   | false=>octrs l g)=some y:=hg
  split at hg2
  ·rename_i hb
   obtain rfl:x.f=g:=by simpa using hb
   cases hg2
   obtain ⟨hc,ho⟩:=h x (by simp)
   obtain ⟨N',h',h1,h2⟩:=ho _ _ _ _ hk
   refine ⟨hc,fun w g F I0 I M β vals a1 a2 a3 a4 a5 a6=>(h2 w g F I0 I M β vals a1 a2 a3 a4 a5 a6).mono ?_⟩
   rintro e w' ⟨u,v,ρ',I',β',he,⟨j,n1,f1,b1,b2,b3,rfl,rfl⟩,hr⟩
   exact ⟨u,v,ρ',I',β',he,⟨j,n1,f1,b1,b2,b3,h1⟩,hr⟩
  ·exact ih (fun x hx=>h x (by simp [hx])) hg2
noncomputable def funY (P:Program) (cs:CSpec) (cx:CX) (ic:IC) (ox:OX) (sp:Nat→Option HSpec) (isp:Nat→Option ISpecR) (f:FuncId) (args:List SV) (res:SV):Prop :=
 bodyZ true ox P cs cx none ic sp isp f args ⟨0,.nil⟩ none fun n rs t X q=>resS P (sev n t) X rs fun vs=>snapP X res (oneS vs) True
theorem funY_does {cs:CSpec} {cx:CX} {ic:IC} {ox:OX} (hcs:SoundS P cs) (hcx:SoundXH P noGhost γ0 cx) (hic:SoundIH P ic) (hox:SoundO P ox) (hm:P.follows .mixedOrders=true) {sp:Nat→Option HSpec} {isp:Nat→Option ISpecR} {f:FuncId} {args:List SV} {res:SV} (h:funY P cs cx ic ox sp isp f args res):Does P f false (SV.denL args) res.den:=by
 obtain ⟨fn,c,hf,hb,hn,hw⟩:=bodyZ_spec (zf:=true) hox (Γ:=noGhost) (γ:=γ0) (ys:=none) hcs hcx trivial hic hm (by show 0<512; omega) h
 refine DoesA.toDoes (DoesA.of (zf:=true) hf hb fun H h1 h2 h3 hz=>wpH_mono (hw H h1 h2 h3 hz) ?_)
 rintro e s A ρ ⟨he,t,X',q',-,rfl,rfl,hX,hk⟩
 obtain ⟨vs,h1,h2⟩:=resS_spec hk
 refine ⟨he,_,_,_,fun _ _ h=>h,h1,?_⟩
 rw [← oneS_den]; exact (snapP_spec _ _ h2).1
end Go.Lg
