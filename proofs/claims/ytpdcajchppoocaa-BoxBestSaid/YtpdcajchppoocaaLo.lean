import Derived.Test.YtpdcajchppoocaaLn
set_option linter.unusedVariables false
set_option linter.unusedSimpArgs false
namespace Go.Lg
variable {P:Program}

theorem Rel.pure' {c I N N' β β' a v} (h:Rel c I N β a v) (hp:Pure a):Rel c I N' β' a v :=
 (h.pure hp (fun _ h=>h)).mono (fun _ _ _ _ h=>h) (fun _ _ h=>h) (fun _ h=>h) (Nat.zero_le _) (fun r hr=>absurd hr (Nat.not_lt_zero _))

theorem Rel.bel {c I N β a v n} (h:Rel c I N β a v) (hb:Bel n a):Rel c I n β a v:=by
 induction hb generalizing v with
 | pure a hp=>exact h.pure' hp
 | ptr r i j hr =>
  generalize hx:AV.ptr r i j=x at h
  cases h <;> cases hx
  rename_i l _ hl
  exact .ptr r i j l hr hl
 | sl r o k hr =>
  rcases h.sl_inv with ⟨cap,l,_,hl,hn,hc,rfl⟩ | ⟨rfl,a,rfl,_⟩
  ·exact .sl r o k cap l hr hl hn hc
  ·exact .slz r o a hr
 | agg c hc ih =>
  cases h with
  | agg _ vs hn hv=>exact .agg _ _ hn (fun j hj=>ih j hj (hv j hj))
 | tup c hc ih =>
  cases h with
  | tup _ vs hn hv=>exact .tup _ _ hn (fun j hj=>ih j hj (hv j hj))
 | clo fn fs cs h1 h2 ih1 ih2 =>
  cases h with
  | clo _ _ _ us vs hm hu hn hv=>exact .clo fn fs cs us vs hm (fun j hj=>ih1 j hj (hu j hj)) hn (fun j hj=>ih2 j hj (hv j hj))
 | yld r hr =>
  generalize hx:AV.yld r=x at h
  cases h <;> cases hx
  rename_i l _ hl
  exact .yld r l hr hl
 | sub r i j sz k hr =>
  generalize hx:AV.sub r i j sz k=x at h
  cases h <;> cases hx
  ·rename_i cap l _ hl hn
   exact .sub r i j sz k cap l hr hl hn
  ·exact .subz _ _ _ _ _ hr
 | mp r hr =>
  generalize hx:AV.mp r=x at h
  cases h <;> cases hx
  rename_i l _ hl
  exact .mp r l hr hl
 | sit r hr =>
  generalize hx:AV.sit r=x at h
  cases h <;> cases hx
  rename_i l _ hl
  exact .sit r l hr hl
 | ifc t a ha ih =>
  cases h with
  | ifc _ _ v h=>exact .ifc t a v (ih h)

theorem ObRel.bel {c I N β n} {o:ObjA} {x:Obj} (h:ObRel (Rel c I N β) o x) (hb:BelQ n (some o)):ObRel (Rel c I n β) o x:=by
 cases h with
 | map es en k h1 h2=>exact .map es en k h1 fun i e y h3 h4=>(h2 i e y h3 h4).bel (hb y (List.mem_of_getElem? h4))
 | siter s p=>exact .siter s p

def resA (P:Program) (A:List AV) (ρ:Store):List ResultVar→List AV→Prop
 | [],vs=>vs=[]
 | .tmp t :: r,vs=>∃ vr,vs=A.getD t .any :: vr∧resA P A ρ r vr
 | .cell a t :: r,vs=>∃ v vr,vs=v :: vr∧aLoad P t (A.getD a .any) ρ v∧resA P A ρ r vr

theorem FRel.tmp {w F I β a A ρ} (h:FRel w F I β a A ρ) (t:Nat):Rel (cellf w) I ρ.length β (A.getD t .any) (a.tmps.getD t undef):=h.eval (.tmp t)

theorem resA_run {w F I β a A ρ} (hs:FRel w F I β a A ρ):∀ (l:List ResultVar) (vs:List AV),resA P A ρ l vs →
  ∃ us,(l.mapM (fun (x:ResultVar)=>(match x with | .tmp t=>pure (a.tmps.getD t undef) | .cell b t=>do loadVar t (← asAddr (a.tmps.getD b undef)):Sem Value))).run P w=.ok us w∧RelL (cellf w) I ρ.length β vs us
 | [],vs,h=>by simp [resA] at h; subst h; exact ⟨[],by simp,.mk_nil⟩
 | .tmp t :: r,vs,h=>by
  obtain ⟨vr,rfl,h⟩:=h
  obtain ⟨us,h1,h2⟩:=resA_run hs r vr h
  exact ⟨a.tmps.getD t undef :: us,by simp only [List.mapM_cons,Sem.run_bind,Sem.run_pure,Result.andThen_ok,h1],.mk (hs.tmp t) h2⟩
 | .cell b t :: r,vs,h=>by
  obtain ⟨v,vr,rfl,h0,h⟩:=h
  obtain ⟨us,h1,h2⟩:=resA_run hs r vr h
  obtain ⟨u,h3,h4⟩:=aLoad_run h0 hs.sr (hs.tmp b)
  refine ⟨u :: us,?_,.mk h4 h2⟩
  have h5:((do loadVar t (← asAddr (a.tmps.getD b undef)):Sem Value)).run P w=.ok u w:=by
   have hb:=hs.tmp b
   generalize a.tmps.getD b undef=q at *
   have:(∃ a0,q=.pointer (some a0)):=by
    unfold aLoad at h0
    split at h0
    ·rename_i he; rw [he] at hb; cases hb; exact ⟨_,rfl⟩
    ·rename_i he; rw [he] at hb; cases hb; exact ⟨_,rfl⟩
    ·exact h0.elim
   obtain ⟨a0,rfl⟩:=this
   simpa [asAddr,Instr.loadAt,Instr.sureAddr] using h3
  simp only [List.mapM_cons,Sem.run_bind,Sem.run_pure]
  simp only [Sem.run_bind] at h5
  rw [h5]; simp only [Result.andThen_ok,h1]

def one?:List AV→AV
 | [v]=>v
 | vs=>.tup vs

theorem results_run {fn:Func} {w F I β a A ρ vs} (hs:FRel w F I β a A ρ) (h:resA P A ρ fn.results.toList vs) :
  ∃ u,(results fn a.tmps).run P w=.ok u w∧Rel (cellf w) I ρ.length β (one? vs) u:=by
 obtain ⟨us,h1,h2⟩:=resA_run (P:=P) hs _ vs h
 have hm:(fn.results.mapM (fun (x:ResultVar)=>(match x with | .tmp t=>pure (a.tmps.getD t undef) | .cell b t=>do loadVar t (← asAddr (a.tmps.getD b undef)):Sem Value))).run P w=.ok us.toArray w:=by
  rw [Array.mapM_eq_mapM_toList,Sem.run_map,h1]; rfl
 have hrun:(results fn a.tmps).run P w=.ok (if h:us.toArray.size=1 then us.toArray[0] else .tuple us.toArray) w:=by
  unfold results
  rw [Sem.run_bind]
  have:(fn.results.mapM (fun (x:ResultVar)=>(match x with | .tmp t=>pure (a.tmps.getD t undef) | .cell b t=>do loadVar t (← asAddr (a.tmps.getD b undef)):Sem Value))).run P w=_:=hm
  refine (congrArg (fun r=>Result.andThen r _) (Eq.trans ?_ this)).trans rfl
  congr 2
 refine ⟨_,hrun,?_⟩
 cases vs with
 | nil=>rw [h2.nil]; simp [one?]; exact RelL.tup (by simpa using RelL.mk_nil)
 | cons v vr =>
  obtain ⟨u,ur,rfl,h3,h4⟩:=h2.cons
  cases vr with
  | nil=>rw [h4.nil]; simpa [one?] using h3
  | cons v2 vr =>
   obtain ⟨u2,ur2,rfl,h5,h6⟩:=h4.cons
   rw [dif_neg (by simp)]
   exact RelL.tup (by simpa using RelL.mk h3 (RelL.mk h5 h6))

theorem cellf_mark {w:World} {D:Nat} (h:w.heap[D]?=some (.deferred (some []))):cellf (w.putObj D (.deferred none))=cellf w:=by
 funext b k
 unfold cellf World.cell?
 by_cases e:b=D
 ·subst e
  simp only [World.putObj_heap_same (Array.getElem?_eq_some_iff.1 h).1,h]
 ·simp only [World.putObj_heap_other e]
theorem frozen_mark {w:World} {D:Nat} (h:w.heap[D]?=some (.deferred (some []))) (a:Addr):(w.putObj D (.deferred none)).frozen? a=w.frozen? a:=by
 unfold World.frozen?
 by_cases e:a.block=D
 ·simp only [e,World.putObj_heap_same (Array.getElem?_eq_some_iff.1 h).1,h]
 ·simp only [World.putObj_heap_other e]

theorem leaves_marks {fn:Func} {tmps:Array Value} {R:Ending→World→Prop} {n:Nat}:∀ (Ds:List Nat) (w:World),Ds.Nodup→(∀ D,D ∈ Ds→w.heap[D]?=some (.deferred (some []))) →
  (∀ w',w'.os=w.os→w'.tape=w.tape→w'.output=w.output→w'.heap.size=w.heap.size→(∀ b,b ∉ Ds→w'.heap[b]?=w.heap[b]?)→cellf w'=cellf w→(∀ a,w'.frozen? a=w.frozen? a) →
   ∃ v,(results fn tmps).run P w'=.ok v w'∧R (.returned v) w')→LeavesInM Fence.wide n P fn tmps R (Ds.map dmark) .returning w
 | [],w,_,_,h=>h w rfl rfl rfl rfl (fun _ _=>rfl) rfl (fun _=>rfl)
 | D :: Ds,w,hn,hm,h=>by
  have hD:=hm D (by simp)
  rw [List.nodup_cons] at hn
  refine ⟨by simp,.inl ⟨D,_,rfl,run_takeDeferred hD,?_⟩⟩
  refine leaves_marks Ds _ hn.2 (fun E hE=>?_) (fun w' h1 h2 h3 h4 h5 h6 h7=>?_)
  ·rw [World.putObj_heap_other (show E≠D from fun e=>hn.1 (by rw [← e]; exact hE))]; exact hm E (by simp [hE])
  ·refine h w' h1 h2 h3 (h4.trans World.putObj_size) (fun b hb=>?_) (h6.trans (cellf_mark hD)) (fun a=>(h7 a).trans (frozen_mark hD a))
   simp only [List.mem_cons,not_or] at hb
   exact (h5 b hb.2).trans (World.putObj_heap_other hb.1)

theorem FRel.marks {w w':World} {F G I β a A ρ} (h:FRel w F I β a A ρ) (hG:∀ b,G b→F b) (hs:w'.heap.size=w.heap.size) (hc:cellf w'=cellf w) (hz:∀ a,w'.frozen? a=w.frozen? a) (hB:∀ b,¬ F b→w'.heap[b]?=w.heap[b]?) :
  SR w' G I β ρ∧∀ i,i<A.length→Rel (cellf w') I ρ.length β (A.getD i .any) (a.tmps.getD i undef):=by
 rw [hc]
 refine ⟨?_,h.rel⟩
 constructor
 ·intro r R l h1 h2
  obtain ⟨a1,a2,a3,a4⟩:=h.sr.real r R l h1 h2
  exact ⟨a1,by omega,a3,fun h=>a4 (hG _ h)⟩
 ·intro r R l h1 h2; rw [hc]; exact h.sr.cells r R l h1 h2
 ·exact h.sr.phantom
 ·exact h.sr.inj
 ·intro b hb; rw [hs]; exact h.sr.ilt b hb
 ·intro b hb; rw [hs]; exact h.sr.flt b (hG b hb)
 ·intro r R l h1 h2 k; rw [hz]; exact h.sr.thaw r R l h1 h2 k
 ·intro r R o h1 h2
  obtain ⟨e,l,x,h3,h4,h5⟩:=h.sr.obs r R o h1 h2
  exact ⟨e,l,x,h3,by rw [hB l.b (h.sr.real r R l h1 h3).2.2.2]; exact h4,by rw [hc]; exact h5⟩

end Go.Lg
