import Derived.Test.YtmjbflifegmmnaaLn
set_option linter.unusedVariables false
set_option linter.unusedSimpArgs false
namespace Go.Lg
variable {P:Program}

theorem Rel.pure' {c I N N' β β' a v} (h:Rel c I N β a v) (hp:Pure a):Rel c I N' β' a v :=
 (h.pure hp (fun _ h=>h)).mono (fun _ _ _ _ h=>h) (fun _ _ h=>h) (fun _ h=>h) (Nat.zero_le _) (fun r hr=>absurd hr (Nat.not_lt_zero _))

theorem Rel.bel {c I N β a v n} (h:Rel c I N β a v) (hb:Bel n a):Rel c I n β a v:=by
 induction hb generalizing v with
 | pure a hp=>exact h.pure' hp
 | ptr r i j hr =>
  generalize hx:AV.ptr r i j=x at h
  cases h <;> cases hx
  rename_i l _ hl
  exact .ptr r i j l hr hl
 | sl r o k hr =>
  rcases h.sl_inv with ⟨cap,l,_,hl,hn,hc,rfl⟩ | ⟨rfl,a,rfl,_⟩
  ·exact .sl r o k cap l hr hl hn hc
  ·exact .slz r o a hr
 | agg c hc ih =>
  cases h with
  | agg _ vs hn hv=>exact .agg _ _ hn (fun j hj=>ih j hj (hv j hj))
 | tup c hc ih =>
  cases h with
  | tup _ vs hn hv=>exact .tup _ _ hn (fun j hj=>ih j hj (hv j hj))
 | clo fn fs cs h1 h2 ih1 ih2 =>
  cases h with
  | clo _ _ _ us vs hm hu hn hv=>exact .clo fn fs cs us vs hm (fun j hj=>ih1 j hj (hu j hj)) hn (fun j hj=>ih2 j hj (hv j hj))
 | yld r hr =>
  generalize hx:AV.yld r=x at h
  cases h <;> cases hx
  rename_i l _ hl
  exact .yld r l hr hl
 | sub r i j sz k hr =>
  generalize hx:AV.sub r i j sz k=x at h
  cases h <;> cases hx
  ·rename_i cap l _ hl hn
   exact .sub r i j sz k cap l hr hl hn
  ·exact .subz _ _ _ _ _ hr
 | mp r hr =>
  generalize hx:AV.mp r=x at h
  cases h <;> cases hx
  rename_i l _ hl
  exact .mp r l hr hl
 | sit r hr =>
  generalize hx:AV.sit r=x at h
  cases h <;> cases hx
  rename_i l _ hl
  exact .sit r l hr hl
 | ifc t a ha ih =>
  cases h with
  | ifc _ _ v h=>exact .ifc t a v (ih h)

theorem ObRel.bel {c I N β n} {o:ObjA} {x:Obj} (h:ObRel (Rel c I N β) o x) (hb:BelQ n (some o)):ObRel (Rel c I n β) o x:=by
 cases h with
 | map es en k h1 h2=>exact .map es en k h1 fun i e y h3 h4=>(h2 i e y h3 h4).bel (hb y (List.mem_of_getElem? h4))
 | siter s p=>exact .siter s p

theorem SRel.trim {C:Ctx} {A:List AV} {ρ:Store} {a w} (hs:SRel C a w A ρ) (n:Nat) (hn:n≤ρ.length) (hT:C.n0≤n) (hA:∀ i,i<A.length→Bel n (A.getD i .any))
  (hρ:∀ r R,r<n→ρ[r]?=some (some R)→∀ i,i<R.els.length→∀ j,j<R.sz→Bel n ((R.els.getD i .any).cells.getD j .any)) (hq:∀ r R,r<n→ρ[r]?=some (some R)→BelQ n R.ob):SRel C a w A (ρ.take n):=by
 obtain ⟨I,β,hk,h0,F',hFF,hf⟩:=hs
 have hlen:(ρ.take n).length=n:=by simp; omega
 have old:∀ (r:Nat) (R:Root),(ρ.take n)[r]?=some (some R)→r<n∧ρ[r]?=some (some R):=by
  intro r R h
  have h1:r<(ρ.take n).length:=(List.getElem?_eq_some_iff.1 h).1
  rw [hlen] at h1
  rw [List.getElem?_take_of_lt h1] at h
  exact ⟨h1,h⟩
 refine ⟨I,β,hk,by rw [hlen]; exact h0.cut n hT,F',hFF,?_,hf.df,hf.size,fun i hi=>by rw [hlen]; exact (hf.rel i hi).bel (hA i hi)⟩
 constructor
 ·intro r R l h1 h2; exact hf.sr.real r R l (old r R h1).2 h2
 ·intro r R l h1 h2 i hi
  obtain ⟨h3,h4⟩:=old r R h1
  obtain ⟨b1,b2⟩:=hf.sr.cells r R l h4 h2 i hi
  refine ⟨b1,fun j hj=>?_⟩
  obtain ⟨u,h5,h6⟩:=b2 j hj
  exact ⟨u,h5,by rw [hlen]; exact h6.bel (hρ r R h3 h4 i hi j hj)⟩
 ·intro r R h1; exact hf.sr.phantom r R (old r R h1).2
 ·intro r s R S l m h1 h2; exact hf.sr.inj r s R S l m (old r R h1).2 (old s S h2).2
 ·exact hf.sr.ilt
 ·exact hf.sr.flt
 ·intro r R l h1; exact hf.sr.thaw r R l (old r R h1).2
 ·intro r R o h1 h2
  obtain ⟨h3,h4⟩:=old r R h1
  obtain ⟨e,l,x,h5,h6,h7⟩:=hf.sr.obs r R o h4 h2
  exact ⟨e,l,x,h5,h6,by rw [hlen]; exact h7.bel (h2 ▸ hq r R h3 h4)⟩

def resA (P:Program) (A:List AV) (ρ:Store):List ResultVar→List AV→Prop
 | [],vs=>vs=[]
 | .tmp t :: r,vs=>∃ vr,vs=A.getD t .any :: vr∧resA P A ρ r vr
 | .cell a t :: r,vs=>∃ v vr,vs=v :: vr∧aLoad P t (A.getD a .any) ρ v∧resA P A ρ r vr

theorem FRel.tmp {w F I β a A ρ} (h:FRel w F I β a A ρ) (t:Nat):Rel (cellf w) I ρ.length β (A.getD t .any) (a.tmps.getD t undef):=h.eval (.tmp t)

theorem resA_run {w F I β a A ρ} (hs:FRel w F I β a A ρ):∀ (l:List ResultVar) (vs:List AV),resA P A ρ l vs →
  ∃ us,(l.mapM (fun (x:ResultVar)=>(match x with | .tmp t=>pure (a.tmps.getD t undef) | .cell b t=>do loadVar t (← asAddr (a.tmps.getD b undef)):Sem Value))).run P w=.ok us w∧RelL (cellf w) I ρ.length β vs us
 | [],vs,h=>by simp [resA] at h; subst h; exact ⟨[],by simp,.mk_nil⟩
 | .tmp t :: r,vs,h=>by
  obtain ⟨vr,rfl,h⟩:=h
  obtain ⟨us,h1,h2⟩:=resA_run hs r vr h
  exact ⟨a.tmps.getD t undef :: us,by simp only [List.mapM_cons,Sem.run_bind,Sem.run_pure,Result.andThen_ok,h1],.mk (hs.tmp t) h2⟩
 | .cell b t :: r,vs,h=>by
  obtain ⟨v,vr,rfl,h0,h⟩:=h
  obtain ⟨us,h1,h2⟩:=resA_run hs r vr h
  obtain ⟨u,h3,h4⟩:=aLoad_run h0 hs.sr (hs.tmp b)
  refine ⟨u :: us,?_,.mk h4 h2⟩
  have h5:((do loadVar t (← asAddr (a.tmps.getD b undef)):Sem Value)).run P w=.ok u w:=by
   have hb:=hs.tmp b
   generalize a.tmps.getD b undef=q at *
   have:(∃ a0,q=.pointer (some a0)):=by
    unfold aLoad at h0
    split at h0
    ·rename_i he; rw [he] at hb; cases hb; exact ⟨_,rfl⟩
    ·rename_i he; rw [he] at hb; cases hb; exact ⟨_,rfl⟩
    ·exact h0.elim
   obtain ⟨a0,rfl⟩:=this
   simpa [asAddr,Instr.loadAt,Instr.sureAddr] using h3
  simp only [List.mapM_cons,Sem.run_bind,Sem.run_pure]
  simp only [Sem.run_bind] at h5
  rw [h5]; simp only [Result.andThen_ok,h1]

def one?:List AV→AV
 | [v]=>v
 | vs=>.tup vs

theorem results_run {fn:Func} {w F I β a A ρ vs} (hs:FRel w F I β a A ρ) (h:resA P A ρ fn.results.toList vs) :
  ∃ u,(results fn a.tmps).run P w=.ok u w∧Rel (cellf w) I ρ.length β (one? vs) u:=by
 obtain ⟨us,h1,h2⟩:=resA_run (P:=P) hs _ vs h
 have hm:(fn.results.mapM (fun (x:ResultVar)=>(match x with | .tmp t=>pure (a.tmps.getD t undef) | .cell b t=>do loadVar t (← asAddr (a.tmps.getD b undef)):Sem Value))).run P w=.ok us.toArray w:=by
  rw [Array.mapM_eq_mapM_toList,Sem.run_map,h1]; rfl
 have hrun:(results fn a.tmps).run P w=.ok (if h:us.toArray.size=1 then us.toArray[0] else .tuple us.toArray) w:=by
  unfold results
  rw [Sem.run_bind]
  have:(fn.results.mapM (fun (x:ResultVar)=>(match x with | .tmp t=>pure (a.tmps.getD t undef) | .cell b t=>do loadVar t (← asAddr (a.tmps.getD b undef)):Sem Value))).run P w=_:=hm
  refine (congrArg (fun r=>Result.andThen r _) (Eq.trans ?_ this)).trans rfl
  congr 2
 refine ⟨_,hrun,?_⟩
 cases vs with
 | nil=>rw [h2.nil]; simp [one?]; exact RelL.tup (by simpa using RelL.mk_nil)
 | cons v vr =>
  obtain ⟨u,ur,rfl,h3,h4⟩:=h2.cons
  cases vr with
  | nil=>rw [h4.nil]; simpa [one?] using h3
  | cons v2 vr =>
   obtain ⟨u2,ur2,rfl,h5,h6⟩:=h4.cons
   rw [dif_neg (by simp)]
   exact RelL.tup (by simpa using RelL.mk h3 (RelL.mk h5 h6))

theorem cellf_mark {w:World} {D:Nat} (h:w.heap[D]?=some (.deferred (some []))):cellf (w.putObj D (.deferred none))=cellf w:=by
 funext b k
 unfold cellf World.cell?
 by_cases e:b=D
 ·subst e
  simp only [World.putObj_heap_same (Array.getElem?_eq_some_iff.1 h).1,h]
 ·simp only [World.putObj_heap_other e]
theorem frozen_mark {w:World} {D:Nat} (h:w.heap[D]?=some (.deferred (some []))) (a:Addr):(w.putObj D (.deferred none)).frozen? a=w.frozen? a:=by
 unfold World.frozen?
 by_cases e:a.block=D
 ·simp only [e,World.putObj_heap_same (Array.getElem?_eq_some_iff.1 h).1,h]
 ·simp only [World.putObj_heap_other e]

theorem leaves_marks {fn:Func} {tmps:Array Value} {R:Ending→World→Prop} {n:Nat}:∀ (Ds:List Nat) (w:World),Ds.Nodup→(∀ D,D ∈ Ds→w.heap[D]?=some (.deferred (some []))) →
  (∀ w',w'.os=w.os→w'.tape=w.tape→w'.output=w.output→w'.heap.size=w.heap.size→(∀ b,b ∉ Ds→w'.heap[b]?=w.heap[b]?)→cellf w'=cellf w→(∀ a,w'.frozen? a=w.frozen? a) →
   ∃ v,(results fn tmps).run P w'=.ok v w'∧R (.returned v) w')→LeavesInM Fence.wide n P fn tmps R (Ds.map dmark) .returning w
 | [],w,_,_,h=>h w rfl rfl rfl rfl (fun _ _=>rfl) rfl (fun _=>rfl)
 | D :: Ds,w,hn,hm,h=>by
  have hD:=hm D (by simp)
  rw [List.nodup_cons] at hn
  refine ⟨by simp,.inl ⟨D,_,rfl,run_takeDeferred hD,?_⟩⟩
  refine leaves_marks Ds _ hn.2 (fun E hE=>?_) (fun w' h1 h2 h3 h4 h5 h6 h7=>?_)
  ·rw [World.putObj_heap_other (show E≠D from fun e=>hn.1 (by rw [← e]; exact hE))]; exact hm E (by simp [hE])
  ·refine h w' h1 h2 h3 (h4.trans World.putObj_size) (fun b hb=>?_) (h6.trans (cellf_mark hD)) (fun a=>(h7 a).trans (frozen_mark hD a))
   simp only [List.mem_cons,not_or] at hb
   exact (h5 b hb.2).trans (World.putObj_heap_other hb.1)

theorem FRel.marks {w w':World} {F G I β a A ρ} (h:FRel w F I β a A ρ) (hG:∀ b,G b→F b) (hs:w'.heap.size=w.heap.size) (hc:cellf w'=cellf w) (hz:∀ a,w'.frozen? a=w.frozen? a) (hB:∀ b,¬ F b→w'.heap[b]?=w.heap[b]?) :
  SR w' G I β ρ∧∀ i,i<A.length→Rel (cellf w') I ρ.length β (A.getD i .any) (a.tmps.getD i undef):=by
 rw [hc]
 refine ⟨?_,h.rel⟩
 constructor
 ·intro r R l h1 h2
  obtain ⟨a1,a2,a3,a4⟩:=h.sr.real r R l h1 h2
  exact ⟨a1,by omega,a3,fun h=>a4 (hG _ h)⟩
 ·intro r R l h1 h2; rw [hc]; exact h.sr.cells r R l h1 h2
 ·exact h.sr.phantom
 ·exact h.sr.inj
 ·intro b hb; rw [hs]; exact h.sr.ilt b hb
 ·intro b hb; rw [hs]; exact h.sr.flt b (hG b hb)
 ·intro r R l h1 h2 k; rw [hz]; exact h.sr.thaw r R l h1 h2 k
 ·intro r R o h1 h2
  obtain ⟨e,l,x,h3,h4,h5⟩:=h.sr.obs r R o h1 h2
  exact ⟨e,l,x,h3,by rw [hB l.b (h.sr.real r R l h1 h3).2.2.2]; exact h4,by rw [hc]; exact h5⟩

theorem Does.of {f:FuncId} {fn:Func} {c:Code} {args:List AV} {res:AV} (hf:P.funcs[f]?=some fn) (hb:fn.body=some c)
  (h:∀ C,C.rd=none∧C.n0=0∧C.own→wpA P C c (fun e A ρ=>(e=.normal∨e=.ret)∧∃ vs,resA P A ρ fn.results.toList vs∧Snap ρ (one? vs) res) (args ++ List.replicate (fn.ntmps - args.length) .any) []) :
  Does P f false args res:=by
 intro w I vals hI hrel
 refine (callsIn_wide (n:=0)).1 (callsIn_of_wp_marks (F:=Fence.wide) (n:=0) hf hb trivial ?_ rfl)
 have hlen:vals.size=args.length:=by simpa using hrel.1
 have hs:SRel ⟨fun b=>b<w.heap.size,I,w,w,none,true,preM w.heap.size [],fun _ D l=>preM_up D l,0,noβ⟩ { tmps:=vals ++ Array.replicate (fn.ntmps - vals.size) undef,defers:=[] } w (args ++ List.replicate (fn.ntmps - args.length) .any) []:=by
  refine ⟨I,noβ,Keeps.refl _ _,Grow.refl _ _ _ _,fun b=>b<w.heap.size,⟨fun _ h=>h,preM_refl _ _⟩,⟨?_,⟨[],List.nodup_nil,rfl,by simp⟩,by simp [hlen],fun i hi=>?_⟩⟩
  ·constructor
   ·intro r R l h; simp at h
   ·intro r R l h; simp at h
   ·intro r R h; simp at h
   ·intro r s R S l m h; simp at h
   ·exact hI
   ·exact fun b hb=>hb
   ·intro r R l h; simp at h
   ·intro r R o h; simp at h
  ·by_cases h1:i<args.length
   ·rw [getD_app_left _ _ _ _ h1]
    have:=hrel.2 i h1
    have h2:i<vals.size:=by omega
    have e:(vals ++ Array.replicate (fn.ntmps - vals.size) undef).getD i undef=vals.toList.getD i undef:=by
     have h3:i<(vals ++ Array.replicate (fn.ntmps - vals.size) undef).size:=by simp; omega
     simp only [Array.getD,h3,dif_pos,List.getD]
     rw [List.getElem?_eq_getElem (by simpa using h2)]
     simp [Array.getElem_append_left h2]
    rw [e]; exact this
   ·have:(args ++ List.replicate (fn.ntmps - args.length) AV.any).getD i .any=.any:=by
     rw [getD_app_right _ _ _ _ (by omega)]
     unfold List.getD
     by_cases h2:i - args.length<fn.ntmps - args.length
     ·simp [h2]
     ·rw [List.getElem?_eq_none (by simp; omega)]; rfl
    rw [this]; exact .any _
 refine wpIn_mono (h ⟨fun b=>b<w.heap.size,I,w,w,none,true,preM w.heap.size [],fun _ D l=>preM_up D l,0,noβ⟩ ⟨rfl,rfl,fun b h=>h⟩ _ w hs 0) ?_
 rintro e a' w' ⟨A',ρ',hs',he,vs,hvs,hsn⟩
 obtain ⟨I',β',hk,h0,F',⟨hF1,hF2⟩,hf'⟩:=hs'
 obtain ⟨Ds,hnd,hdef,hDs⟩:=hf'.df
 obtain ⟨hdef,hge⟩:=preM_nil hF2 hdef
 have hfin:LeavesInM Fence.wide 0 P fn a'.tmps (fun e w'=>∃ u I',e=.returned u∧Keeps (fun b=>b<w.heap.size) w w'∧(∀ b,I' b→b<w'.heap.size)∧(∀ b,I' b→(false=false∧I b)∨w.heap.size≤b)∧Rel (cellf w') I' 0 noβ res u) a'.defers .returning w':=by
  rw [hdef]
  refine leaves_marks Ds w' hnd (fun D hD=>(hDs D hD).2.2) (fun w2 e1 e2 e3 e4 e5 e6 e7=>?_)
  obtain ⟨hsr2,hrel2⟩:=hf'.marks hF1 e4 e6 e7 (fun b hb=>e5 b fun hD=>hb (hDs b hD).1)
  have hf2:FRel w2 (fun b=>b<w.heap.size) I' β' { a' with defers:=[] } A' ρ':=⟨hsr2,⟨[],List.nodup_nil,rfl,by simp⟩,hf'.size,hrel2⟩
  obtain ⟨u,hu,hru⟩:=results_run (P:=P) hf2 hvs
  have hres:=Snap.rel hsn hf2.sr hru
  refine ⟨u,hu,u,withLive I' β' ρ',rfl,⟨e1.trans hk.os,e2.trans hk.tape,e3.trans hk.output,by rw [e4]; exact hk.size,fun b hb=>(e5 b (fun hD=>Nat.lt_irrefl _ (Nat.lt_of_lt_of_le hb (hge b hD)))).trans (hk.block b hb)⟩,fun b hb=>?_,fun b hb=>?_,hres⟩
  ·rcases hb with hb | ⟨r,R,l,h1,h2,rfl⟩
   ·exact hf2.sr.ilt b hb
   ·exact (hf2.sr.real r R l h1 h2).2.1
  ·rcases hb with hb | ⟨r,R,l,h1,h2,rfl⟩
   ·exact (h0.hI2 b hb).imp (fun h=>⟨rfl,h⟩) id
   ·exact .inr (Nat.le_of_not_lt (hf2.sr.real r R l h1 h2).2.2.2)
 rcases he with rfl | rfl
 ·exact hfin
 ·exact hfin
end Go.Lg
