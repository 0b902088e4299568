import Derived.RecoverIn
import Derived.Test.YtmjbflifegmmnaaMd
set_option linter.unusedVariables false
set_option linter.unusedSimpArgs false
namespace Go.Lg
open Go.RowKit
variable {P:Program}


inductive Res where
 | ret (v:AV)
 | pan (v:Value)

def fnOfM (P:Program) (f:AV) (args:List AV):Option (FuncId × List AV):=match f with
 | .clo (.method name) (.ifc t y :: fs) _=>(match methodOf P t name with
  | some g=>some (g,y :: (fs ++ args))
  | none=>none)
 | f=>fnOf f args
def targetOf (P:Program) (c:Call) (ev:Operand→AV):Option (FuncId × List AV):=match c.callee with
 | .value f=>fnOfM P (ev f) (c.args.toList.map ev)
 | .invoke r name=>(match ev r with
  | .ifc t v=>(match methodOf P t name with
   | some g=>some (g,v :: c.args.toList.map ev)
   | none=>none)
  | _=>none)
 | .builtin _=>none

theorem target_cases {c:Call} {ev:Operand→AV} {g:FuncId} {args:List AV} (h:targetOf P c ev=some (g,args)) :
  (∃ f,c.callee=.value f∧fnOf (ev f) (c.args.toList.map ev)=some (g,args)) ∨
  (∃ f name t y fs cs,c.callee=.value f∧ev f=.clo (.method name) (.ifc t y :: fs) cs∧methodOf P t name=some g∧args=y :: (fs ++ c.args.toList.map ev)) ∨
  (∃ r name t y,c.callee=.invoke r name∧ev r=.ifc t y∧methodOf P t name=some g∧args=y :: c.args.toList.map ev):=by
 unfold targetOf at h
 split at h
 ·rename_i f hc
  unfold fnOfM at h
  split at h
  ·rename_i name t y fs cs he
   split at h
   ·rename_i g' hm
    cases h
    exact .inr (.inl ⟨f,name,t,y,fs,cs,hc,he,hm,rfl⟩)
   ·cases h
  ·exact .inl ⟨f,hc,h⟩
 ·rename_i r name hc
  split at h
  ·rename_i t v hr
   split at h
   ·rename_i g' hm
    cases h
    exact .inr (.inr ⟨r,name,t,v,hc,hr,hm,rfl⟩)
   ·cases h
  ·cases h
 ·cases h

theorem target_run {w F I β a A ρ} (hs:FRel w F I β a A ρ) {o:Oper} {c:Call} {g:FuncId} {args:List AV} (ho:o.op=.call c) (h:targetOf P c (aev A)=some (g,args)) (hcb:callable P g=true) :
  ∃ vals,(execOp a.eval o).run P w=.ok (.enter g vals) w∧RelL (cellf w) I ρ.length β args vals.toList:=by
 rcases target_cases h with ⟨f,hc,hf⟩ | ⟨f,name,t,y,fs,cs,hc,he,hm,rfl⟩ | ⟨r,name,t,y,hc,hr,hm,rfl⟩
 ·exact fnOf_run hs ho hc hf hcb
 ·exact meth_run hs ho hc he hm hcb
 ·exact inv_run hs ho hc hr hm hcb

def DoesP (P:Program) (L:List LoopV) (f:FuncId) (args:List AV) (st:List LS) (ρ:Store) (x:Value) (R:List LS→Store→Prop):Prop :=
 ∀ (w:World) (F I:Nat→Prop) (β:Nat→Option Loc) (vals:Array Value),SR w F I β ρ→LStat w I ρ.length β L→LDyn F w L st→RelL (cellf w) I ρ.length β args vals.toList →
  Calls P f vals w fun e w'=>∃ st' ρ' I' β',e=.panicked [{ v:=x,recovered:=false }]∧R st' ρ'∧Keeps (fun b=>F b∧¬ blk L b) w w'∧Grow w w' I I' ρ.length ρ'.length β β'∧SR w' F I' β' ρ'∧LDyn F w' L st'
theorem DoesP.mono {L f args st ρ x} {R R':List LS→Store→Prop} (h:DoesP P L f args st ρ x R) (hR:∀ st ρ,R st ρ→R' st ρ):DoesP P L f args st ρ x R' :=
 fun w F I β vals h1 h2 h3 h4=>(h w F I β vals h1 h2 h3 h4).mono fun e w' ⟨st',ρ',I',β',he,hr,h⟩=>⟨st',ρ',I',β',he,hR _ _ hr,h⟩
def DoesX (P:Program) (L:List LoopV) (f:FuncId) (args:List AV) (st:List LS) (ρ:Store):Res→List LS→Store→Prop
 | .ret v,st',ρ'=>DoesG P L f args st ρ (fun a s r=>a=v∧s=st'∧r=ρ')
 | .pan x,st',ρ'=>DoesP P L f args st ρ x (fun s r=>s=st'∧r=ρ')

theorem Oper.wpIn_enterP {o:Oper} {a:Act} {w:World} {f:FuncId} {vals:Array Value} {r:Option Nat} {n:Nat} {K:Act→World→Prop} {Q:Exit→Act→World→Prop}
  (h:(execOp a.eval o).run P w=.ok (.enter f vals) w) {R:Ending→World→Prop} (hc:Calls P f vals w R) (hR:∀ e w',R e w'→∃ ch,e=.panicked ch∧Q (.panic ch) a w'):o.wpIn (fz r) n P a w K Q:=by
 refine ⟨fun _ _=>trivial,?_⟩
 rw [Oper.semAt_eq _ _ _ (not_defer_of h (by simp)),h,Oper.uponIn_enter]
 refine ⟨fun h=>by simp [fz,Fence.wide] at h,?_⟩
 have h1:CallsIn (fz r) (n - 1) P f vals w R:=(callsIn_wide (n:=n - 1)).2 hc
 refine h1.mono ?_
 intro e w' he
 obtain ⟨v,rfl,hk⟩:=hR e w' he
 exact hk

section
variable {C:Ctx} {L:List LoopV} {st:List LS} {A:List AV} {ρ:Store}

theorem tcall_srelG {o:Oper} {c:Call} {g:FuncId} {args:List AV} {R:AV→List LS→Store→Prop} {a w} (hs:SRelG C L st a w A ρ) (ho:o.op=.call c)
  (hf:targetOf P c (aev A)=some (g,args)) (hcb:callable P g=true) (hd:DoesG P L g args st ρ R) {K:Act→World→Prop} {Q:Exit→Act→World→Prop}
  (hK:∀ v st' ρ' a' w',R v st' ρ'→SRelG C L st' a' w' (putA A o.dst v) ρ'→K a' w') (n:Nat):o.wpIn (fz C.rd) n P a w K Q:=by
 obtain ⟨hL,hLF,I,β,hk,h0,F',⟨hF,hM,hD⟩,hfr⟩:=hs
 obtain ⟨vals,hrun,hrel⟩:=target_run (P:=P) hfr ho hf hcb
 refine Oper.wpIn_enter hrun (hd w F' I β vals hfr.sr (hL.grow h0) hD hrel) ?_
 rintro e w' ⟨u,v,st',ρ',I',β',rfl,hR,hk',hg,hsr,hD',hv⟩
 refine ⟨u,rfl,hK v st' ρ' _ w' hR ⟨hL,hLF,I',β',hk.trans (hk'.sub fun b hb=>⟨hF b hb,fun ⟨e,he,hb'⟩=>hLF e he (hb' ▸ hb)⟩),h0.trans hg,F',⟨hF,(by cases o.dst <;> exact hM),hD'⟩,hfr.putM o.dst hg hsr (hfr.df.loops hD hk' hg fun _ h=>h) hv⟩⟩
theorem tcallP_srelG {o:Oper} {c:Call} {g:FuncId} {args:List AV} {x:Value} {R:List LS→Store→Prop} {a w} (hs:SRelG C L st a w A ρ) (ho:o.op=.call c)
  (hf:targetOf P c (aev A)=some (g,args)) (hcb:callable P g=true) (hd:DoesP P L g args st ρ x R) {K:Act→World→Prop} {Q:Exit→Act→World→Prop}
  (hQ:∀ st' ρ' w',R st' ρ'→SRelG C L st' a w' A ρ'→Q (.panic [{ v:=x,recovered:=false }]) a w') (n:Nat):o.wpIn (fz C.rd) n P a w K Q:=by
 obtain ⟨hL,hLF,I,β,hk,h0,F',⟨hF,hM,hD⟩,hfr⟩:=hs
 obtain ⟨vals,hrun,hrel⟩:=target_run (P:=P) hfr ho hf hcb
 refine Oper.wpIn_enterP hrun (hd w F' I β vals hfr.sr (hL.grow h0) hD hrel) ?_
 rintro e w' ⟨st',ρ',I',β',rfl,hR,hk',hg,hsr,hD'⟩
 refine ⟨_,rfl,hQ st' ρ' w' hR ⟨hL,hLF,I',β',hk.trans (hk'.sub fun b hb=>⟨hF b hb,fun ⟨e,he,hb'⟩=>hLF e he (hb' ▸ hb)⟩),h0.trans hg,F',⟨hF,hM,hD'⟩,?_⟩⟩
 exact ⟨hsr,hfr.df.loops hD hk' hg fun _ h=>h,hfr.size,fun i hi=>hg.rel (hfr.rel i hi)⟩

theorem panic_srelG {o:Oper} {x:Operand} {t:TypeId} {y:AV} {v:Value} {a w} (hs:SRelG C L st a w A ρ) (ho:o.op=.panic x) (hx:aev A x=.ifc t y) (hy:toV y=some v)
  {K:Act→World→Prop} {Q:Exit→Act→World→Prop} (hQ:Q (.panic [{ v:=.iface t v,recovered:=false }]) a w) (n:Nat):o.wpIn (fz C.rd) n P a w K Q:=by
 obtain ⟨_,_,I,β,_,_,F',_,hfr⟩:=hs
 have hv:=hfr.eval x
 rw [hx] at hv
 generalize hav:a.eval x=u at hv
 cases hv with
 | ifc _ _ z hz =>
  have:=toV_spec hy hz
  subst this
  refine ⟨fun _ _=>trivial,?_⟩
  rw [Oper.semAt_eq _ _ _ (fun c h=>by rw [ho] at h; cases h)]
  have:(execOp a.eval o).run P w=.halt (.panic (.iface t z)) w:=by
   unfold execOp
   simp only [ho,hav,Instr.panic]
   rfl
  rw [this,Oper.uponIn_panic]
  exact hQ

def opX (P:Program) (L:List LoopV) (o:Oper) (K:AV→List LS→Store→Prop) (Kp:Exit→List LS→Store→Prop) (st:List LS) (A:List AV) (ρ:Store):Prop :=
 (∃ v ρ',aop P o (aev A) ρ v ρ'∧K v st ρ') ∨
 (∃ c g args,o.op=.call c∧targetOf P c (aev A)=some (g,args)∧callable P g=true∧DoesG P L g args st ρ K) ∨
 (∃ c g args x,o.op=.call c∧targetOf P c (aev A)=some (g,args)∧callable P g=true∧DoesP P L g args st ρ x (Kp (.panic [{ v:=x,recovered:=false }]))) ∨
 (∃ c f k e,o.op=.call c∧c.callee=.value f∧L[k]?=some e∧aev A f=.yld e.r∧YieldG P L k e (c.args.toList.map (aev A)) st ρ (fun b st' ρ'=>K (.sc (.bool b)) st' ρ')) ∨
 (∃ x t y v,o.op=.panic x∧aev A x=.ifc t y∧toV y=some v∧Kp (.panic [{ v:=.iface t v,recovered:=false }]) st ρ)

def runX (P:Program) (L:List LoopV) (ops:Array Oper):List Oper→(List LS→List AV→Store→Prop)→(Exit→List LS→List AV→Store→Prop)→List LS→List AV→Store→Prop
 | [],K,Q,st,A,ρ=>K st A ρ
 | o :: r,K,Q,st,A,ρ=>match o.guard with
  | none=>opX P L o (fun v st' ρ'=>runX P L ops r K Q st' (putA A o.dst v) ρ') (fun x st' ρ'=>Q x st' A ρ') st A ρ
  | some (j,want)=>match gvalS ops A j want with
   | some b=>(b=true→opX P L o (fun v st' ρ'=>runX P L ops r K Q st' (putA A o.dst v) ρ') (fun x st' ρ'=>Q x st' A ρ') st A ρ)∧(b=false→runX P L ops r K Q st (putA A o.dst uA) ρ)
   | none=>False

theorem opX_wp {o:Oper} {K':AV→List LS→Store→Prop} {Kp:Exit→List LS→Store→Prop} {a w} (hs:SRelG C L st a w A ρ) (h:opX P L o K' Kp st A ρ) {K:Act→World→Prop} {Q:Exit→Act→World→Prop}
  (hK:∀ v st' ρ' a' w',K' v st' ρ'→SRelG C L st' a' w' (putA A o.dst v) ρ'→K a' w')
  (hQ:∀ e st' ρ' w',Kp e st' ρ'→SRelG C L st' a w' A ρ'→Q e a w') (n:Nat):o.wpIn (fz C.rd) n P a w K Q:=by
 rcases h with ⟨v,ρ',h1,h2⟩ | ⟨c,g,args,ho,hf,hcb,hd⟩ | ⟨c,g,args,x,ho,hf,hcb,hd⟩ | ⟨c,f,k,e,ho,hc,hk,hf,hy⟩ | ⟨x,t,y,v,ho,hx,hy,hp⟩
 ·exact aop_srelG hs h1 (fun a' w' hs'=>hK _ _ _ a' w' h2 hs') n
 ·exact tcall_srelG hs ho hf hcb hd hK n
 ·exact tcallP_srelG hs ho hf hcb hd (fun st' ρ' w' hR hs'=>hQ _ _ _ w' hR hs') n
 ·exact yield_srelG hs ho hc hk hf hy (fun b st' ρ' a' w' hR hs'=>hK _ _ _ a' w' hR hs') n
 ·exact panic_srelG hs ho hx hy (hQ _ _ _ w hp hs) n

theorem runX_sound {ops:Array Oper} {Q':Exit→Act→World→Prop} {K:List LS→List AV→Store→Prop} {Q:Exit→List LS→List AV→Store→Prop} {tail:List Oper} (hN:∀ a w st A ρ,SRelG C L st a w A ρ→K st A ρ→∀ n,wpListIn (fz C.rd) n P ops Q' tail a w)
  (hP:∀ e a w st A ρ,SRelG C L st a w A ρ→Q e st A ρ→Q' e a w) :
  ∀ (l:List Oper) (st:List LS) (A:List AV) (ρ:Store) (a:Act) (w:World),SRelG C L st a w A ρ→runX P L ops l K Q st A ρ→∀ n,wpListIn (fz C.rd) n P ops Q' (l ++ tail) a w
 | [],st,A,ρ,a,w,hs,h=>hN a w st A ρ hs h
 | o :: r,st,A,ρ,a,w,hs,h=>fun n=>by
  have run:opX P L o (fun v st' ρ'=>runX P L ops r K Q st' (putA A o.dst v) ρ') (fun x st' ρ'=>Q x st' A ρ') st A ρ→o.wpIn (fz C.rd) n P a w (wpListIn (fz C.rd) n P ops Q' (r ++ tail)) Q' :=
   fun h1=>opX_wp hs h1 (fun v st' ρ' a' w' hk hs'=>runX_sound hN hP r _ _ _ a' w' hs' hk n) (fun e st' ρ' w' hq hs'=>hP e a w' st' A ρ' hs' hq) n
  rw [List.cons_append]
  unfold wpListIn
  unfold runX at h
  split at h
  ·rename_i hg
   rw [if_pos (by simp [Region.wanted,hg])]
   exact run h
  ·rename_i j want hg
   split at h
   ·rename_i b hb
    have hy:=gvalS_specG hb hs
    cases b with
    | true =>
     rw [if_pos (by simp only [Region.wanted,hg]; exact hy)]
     exact run (h.1 rfl)
    | false =>
     rw [if_neg (by simp only [Region.wanted,hg]; rw [hy]; simp)]
     exact ⟨fun _ _=>trivial,runX_sound hN hP r _ _ _ _ w (hs.skipU o.dst) (h.2 rfl) n⟩
   ·exact h.elim

end
end Go.Lg

namespace Go.Lg
open Go.RowKit
variable {P:Program}


inductive DL (c:Nat→Nat→Option Value) (I:Nat→Prop) (N:Nat) (β:Nat→Option Loc) (n0:Nat):List (FuncId × List AV)→List Deferred→Prop
 | nil:DL c I N β n0 [] []
 | mark (D:Nat) (ds:List (FuncId × List AV)) (l:List Deferred) (h:n0≤D) (t:DL c I N β n0 ds l):DL c I N β n0 ds (dmark D :: l)
 | call (g:FuncId) (args:List AV) (us vs:Array Value) (ds:List (FuncId × List AV)) (l:List Deferred) (h:RelL c I N β args (us ++ vs).toList) (t:DL c I N β n0 ds l) :
   DL c I N β n0 ((g,args) :: ds) ({ target:=.fn (.func g) vs,args:=us } :: l)
theorem DL.mono {c c' I I' N N' β β' n0 n0' ds l} (h:DL c I N β n0 ds l) (f:∀ a v,Rel c I N β a v→Rel c' I' N' β' a v) (hn:n0'≤n0):DL c' I' N' β' n0' ds l:=by
 induction h with
 | nil=>exact .nil
 | mark D ds l h t ih=>exact .mark D ds l (Nat.le_trans hn h) ih
 | call g args us vs ds l h t ih=>exact .call g args us vs ds l (h.mono f) ih
theorem DL.pre {c I N β n0 ds l} (h:DL c I N β n0 ds l):∀ Ds:List Nat,(∀ D,D ∈ Ds→n0≤D)→DL c I N β n0 ds (Ds.map dmark ++ l)
 | [],_=>h
 | D :: Ds,k=>.mark D _ _ (k D (by simp)) (DL.pre h Ds fun E hE=>k E (by simp [hE]))

def SRelD (C:Ctx) (L:List LoopV) (ds:List (FuncId × List AV)) (st:List LS) (a:Act) (w:World) (A:List AV) (ρ:Store):Prop :=
 LStat C.g0 C.I0 C.n0 C.β0 L∧(∀ e ∈ L,¬ C.F e.l)∧∃ I β,Keeps C.F C.w0 w∧Grow C.g0 w C.I0 I C.n0 ρ.length C.β0 β ∧
  ∃ F',((∀ b,C.F b→F' b)∧DL (cellf w) I ρ.length β C.w0.heap.size ds a.defers∧LDyn F' w L st)∧FRel w F' I β a A ρ

section
variable {C:Ctx} {L:List LoopV} {st:List LS} {A:List AV} {ρ:Store} {ds:List (FuncId × List AV)}

theorem SRelD.open {a w} (hs:SRelD C L ds st a w A ρ):∃ C':Ctx,(C'.rd=C.rd∧C'.rg=true)∧SRelG C' L st a w A ρ∧∀ st' a' w' A' ρ',SRelG C' L st' a' w' A' ρ'→SRelD C L ds st' a' w' A' ρ':=by
 obtain ⟨hL,hLF,I,β,hk,h0,F',⟨hF,hM,hD⟩,hf⟩:=hs
 refine ⟨⟨C.F,I,w,w,C.rd,true,preM w.heap.size a.defers,fun _ D l=>preM_up D l,ρ.length,β⟩,⟨rfl,rfl⟩,⟨hL.grow h0,hLF,I,β,Keeps.refl _ _,Grow.refl _ _ _ _,F',⟨hF,preM_refl _ _,hD⟩,hf⟩,?_⟩
 rintro st' a' w' A' ρ' ⟨_,_,I',β',hk',h0',F2,⟨hF2,⟨Ds,hdef,hge⟩,hD2⟩,hf'⟩
 refine ⟨hL,hLF,I',β',hk.trans hk',h0.trans h0',F2,⟨hF2,?_,hD2⟩,hf'⟩
 rw [hdef]
 exact (hM.mono (fun a v=>h0'.rel) (Nat.le_refl _)).pre Ds fun D hD=>Nat.le_trans hk.size (hge D hD)

end

def DoesD (P:Program) (L:List LoopV) (f:FuncId) (args:List AV) (st:List LS) (ρ:Store) (u u':FrameMode) (R:List LS→Store→Prop):Prop :=
 ∀ (w:World) (F I:Nat→Prop) (β:Nat→Option Loc) (vals:Array Value),SR w F I β ρ→LStat w I ρ.length β L→LDyn F w L st→RelL (cellf w) I ρ.length β args vals.toList →
  CallsDIn Fence.wide 0 P f vals u w fun e u2 w'=>∃ x st' ρ' I' β',e=.returned x∧u2=u'∧R st' ρ'∧Keeps (fun b=>F b∧¬ blk L b) w w'∧Grow w w' I I' ρ.length ρ'.length β β'∧SR w' F I' β' ρ'∧LDyn F w' L st'
theorem DoesD.mono {L f args st ρ u u'} {R R':List LS→Store→Prop} (h:DoesD P L f args st ρ u u' R) (hR:∀ st ρ,R st ρ→R' st ρ):DoesD P L f args st ρ u u' R' :=
 fun w F I β vals h1 h2 h3 h4=>(h w F I β vals h1 h2 h3 h4).mono fun e u2 w' ⟨x,st',ρ',I',β',he,hu,hr,h⟩=>⟨x,st',ρ',I',β',he,hu,hR _ _ hr,h⟩

section
variable {C:Ctx} {L:List LoopV} {st:List LS} {A:List AV} {ρ:Store} {ds:List (FuncId × List AV)}

end
end Go.Lg

namespace Go.Lg
open Go.RowKit
variable {P:Program}

theorem wpSIn_region_rec {F:Fence} {n:Nat} {Q:Exit→Act→List Frame→World→Prop} {a:Act} {cs cs2:List Frame} {w:World} {id:Nat} {o0:Oper} {l:List Oper} {c:Call} {v:Value} (hro:F.round=none) (hfn:∀ f,F.fn f)
  (hop:o0.op=.call c) (hc:c.callee=.builtin .recover) (hg:o0.guard=none) (hrec:recoverD cs=some (v,cs2)∨(recoverD cs=none∧v=.nilIface∧cs2=cs))
  (h:wpListIn F n P (o0 :: l).toArray (fun e a' w'=>Q e a' cs2 w') l (a.put o0.dst v) w):(Code.region id (o0 :: l).toArray false).wpSIn F n P Q a cs w:=by
 intro b k hb hr hF hroom
 have ho:(o0 :: l).toArray[0]?=some o0:=rfl
 have hw:Region.wanted o0 (yielded (o0 :: l).toArray a.tmps)=true:=by simp [Region.wanted,hg]
 have hrange:List.range (o0 :: l).toArray.size=0 :: List.range' 1 l.length:=by
  rw [List.range_eq_range']; simp [List.range'_succ]
 have i0:(lone (b.atR a (.code (.region id (o0 :: l).toArray false) :: k)) cs w).fenced P F:=fenced_calm hF hroom rfl
 have h0:(lone (b.atR a (.inRegion (o0 :: l).toArray (0 :: List.range' 1 l.length) :: k)) cs w).fenced P F:=fenced_oper hF hroom ho (fun f _=>hfn f)
 have hgs:=stepGR_op (P:=P) (b:=b) (k:=k) (cs:=cs) (w:=w) (rest:=List.range' 1 l.length) ho hw
 rw [hr,Oper.semAt_none] at hgs
 have hrun:(execOp a.eval o0).run P w=.ok .recover w:=by
  obtain ⟨cs0,e0⟩:∃ cs0,resolve a.eval c o0.type=pure { target:=.builtin .recover c.argTypes o0.type cs0,args:=c.args.map a.eval }:=⟨_,by unfold resolve; rw [hc]⟩
  unfold execOp
  simp [hop,e0,invoke,builtin]
 have hfin:∀ v,(b.atR a (.inRegion (o0 :: l).toArray (0 :: List.range' 1 l.length) :: k)).finish v=b.atR (a.put o0.dst v) (.inRegion (o0 :: l).toArray (List.range' 1 l.length) :: k):=by
  intro v; rw [Frame.finish_atR,ho]; rfl
 have htr:=tryRecover_deferred (show (b.atR a (.inRegion (o0 :: l).toArray (0 :: List.range' 1 l.length) :: k)).kind=.deferred from hb) cs
 have hlen:cs2.length=cs.length:=by
  rcases hrec with h | ⟨_,_,rfl⟩
  ·exact recoverD_length h
  ·rfl
 have hwp:=wp_opsIn (F:=F) (n:=n) (P:=P) (ops:=(o0 :: l).toArray) (Q:=fun e a' w'=>Q e a' cs2 w') (List.range' 1 l.length) (a.put o0.dst v) w (by
  rw [wpOpsIn_eq_wpListIn l 1 (fun j=>by simp [Nat.add_comm 1 j])]; exact h) b k cs2 (hr.trans hro.symm) hF (hlen ▸ hroom)
 obtain ⟨e,a',w',hq,harr⟩:=hwp
 refine ⟨e,a',cs2,w',hlen,hq,.of_steps (.head i0 stepR_region ?_) harr⟩
 rw [hrange]
 refine .one h0 (step_lone_go ?_)
 rw [hgs,← hfin]
 simp only [Frame.atR,hr] at htr ⊢
 rcases hrec with hrec | ⟨hrec,rfl,rfl⟩
 ·simp [stepG.apply,hrun,htr,hrec]
 ·simp [stepG.apply,hrun,htr,hrec]

def recV:Option Value→Option AV
 | none=>some (.sc .nilIface)
 | some (.iface t v)=>some (.ifc t (ofV v))
 | _=>none
theorem recV_rel {x:Option Value} {y:AV} (h:recV x=some y) (c I N β):Rel c I N β y (x.getD .nilIface):=by
 unfold recV at h
 split at h
 ·cases h; exact .sc _
 ·cases h; exact .ifc _ _ _ (ofV_rel _ _ _ _ _)
 ·cases h
def modeOf (b:Bool):Option Value→FrameMode
 | none=>.returning
 | some x=>.panicking [{ v:=x,recovered:=b }]

theorem args_frame {w:World} {F I:Nat→Prop} {β:Nat→Option Loc} {ρ:Store} {args:List AV} {vals:Array Value} (hsr0:SR w F I β ρ) (hrel:RelL (cellf w) I ρ.length β args vals.toList) (n:Nat) :
  FRel w F I β { tmps:=vals ++ Array.replicate (n - vals.size) undef,defers:=[] } (args ++ List.replicate (n - args.length) .any) ρ:=by
 have hlen:vals.size=args.length:=by simpa using hrel.1
 refine ⟨hsr0,⟨[],List.nodup_nil,rfl,by simp⟩,by simp [hlen],fun i hi=>?_⟩
 by_cases h1:i<args.length
 ·rw [getD_app_left _ _ _ _ h1]
  have:=hrel.2 i h1
  have h2:i<vals.size:=by omega
  have e:(vals ++ Array.replicate (n - vals.size) undef).getD i undef=vals.toList.getD i undef:=by
   have h3:i<(vals ++ Array.replicate (n - vals.size) undef).size:=by simp; omega
   simp only [Array.getD,h3,dif_pos,List.getD]
   rw [List.getElem?_eq_getElem (by simpa using h2)]
   simp [Array.getElem_append_left h2]
  rw [e]; exact this
 ·have:(args ++ List.replicate (n - args.length) AV.any).getD i .any=.any:=by
   rw [getD_app_right _ _ _ _ (by omega)]
   unfold List.getD
   by_cases h2:i - args.length<n - args.length
   ·simp [h2]
   ·rw [List.getElem?_eq_none (by simp; omega)]; rfl
  rw [this]; exact .any _

section
variable {L:List LoopV} {st:List LS} {ρ:Store}

theorem SR.shrink {w F F2 I β ρ} (h:SR w F2 I β ρ) (hsub:∀ b,F b→F2 b):SR w F I β ρ :=
 ⟨fun r R l h1 h2=>by
  obtain ⟨a1,a2,a3,a4⟩:=h.real r R l h1 h2
  exact ⟨a1,a2,a3,fun h=>a4 (hsub _ h)⟩,h.cells,h.phantom,h.inj,h.ilt,fun b hb=>h.flt b (hsub _ hb),h.thaw,h.obs⟩
theorem LDyn.back {F F2:Nat→Prop} {w w':World} {st st'} (h:LDyn F w L st) (h2:LDyn F2 w' L st'):LDyn F w' L st':=by
 refine ⟨h2.1,fun k e s h3 h4=>?_⟩
 obtain ⟨_,_,_,_,h5,_⟩:=h.at (List.mem_of_getElem? h3)
 exact ⟨h5,(h2.2 k e s h3 h4).2⟩
theorem LDyn.sub {F F2:Nat→Prop} {w':World} {st':List LS} (h2:LDyn F2 w' L st') (hF:∀ b,F b∧¬ blk L b→F2 b):∀ b,F b→F2 b:=fun b hb=>by
 by_cases hbl:blk L b
 ·obtain ⟨e,he,rfl⟩:=hbl
  obtain ⟨_,_,_,_,h1,_⟩:=h2.at he
  exact h1
 ·exact hF b ⟨hb,hbl⟩

theorem DoesD.of {g:FuncId} {fn:Func} {id:Nat} {o0:Oper} {l:List Oper} {rest:Code} {c:Call} {args:List AV} {x:Option Value} {y:AV} {R:List LS→Store→Prop} (hf:P.funcs[g]?=some fn) (hb:fn.body=some (.seq (.region id (o0 :: l).toArray false) rest))
  (hop:o0.op=.call c) (hc:c.callee=.builtin .recover) (hg:o0.guard=none) (hx:recV x=some y)
  (h:∀ C:Ctx,C.rd=none→C.rg=false→runX P L (o0 :: l).toArray l (wpG P C L rest (fun e st' A' ρ'=>(e=.normal∨e=.ret)∧∃ vs,resA P A' ρ' fn.results.toList vs∧R st' ρ')) (fun _ _ _ _=>False) st (putA (args ++ List.replicate (fn.ntmps - args.length) .any) o0.dst y) ρ) :
  DoesD P L g args st ρ (modeOf false x) (modeOf true x) R:=by
 intro w F I β vals hsr0 hL hD hrel
 let C:Ctx:=⟨fun b=>F b∧¬ blk L b,I,w,w,none,false,fun l=>l=[],fun h=>(by cases h),ρ.length,β⟩
 have hfr:=args_frame hsr0 hrel fn.ntmps
 have hs0:SRelG C L st ({ tmps:=vals ++ Array.replicate (fn.ntmps - vals.size) undef,defers:=[] }:Act) w (args ++ List.replicate (fn.ntmps - args.length) .any) ρ :=
  ⟨hL,fun e he hb=>hb.2 ⟨e,he,rfl⟩,I,β,Keeps.refl _ _,Grow.refl _ _ _ _,F,⟨fun b hb=>hb.1,rfl,hD⟩,hfr⟩
 have hs1:SRelG C L st ((({ tmps:=vals ++ Array.replicate (fn.ntmps - vals.size) undef,defers:=[] }:Act)).put o0.dst (x.getD .nilIface)) w (putA (args ++ List.replicate (fn.ntmps - args.length) .any) o0.dst y) ρ :=
  ⟨hL,fun e he hb=>hb.2 ⟨e,he,rfl⟩,I,β,Keeps.refl _ _,Grow.refl _ _ _ _,F,⟨fun b hb=>hb.1,by show (Act.put _ _ _).defers=[]; cases o0.dst <;> rfl,hD⟩,hfr.put0 o0.dst (recV_rel hx _ _ _ _)⟩
 refine callsDIn_of_wpSIn (F:=Fence.wide) (n:=0) hf hb trivial ?_
 intro c₀ cs hmode
 have hrec:∃ cs2,cs2={ c₀ with mode:=modeOf true x } :: cs∧(recoverD (c₀ :: cs)=some (x.getD .nilIface,cs2)∨(recoverD (c₀ :: cs)=none∧x.getD .nilIface=.nilIface∧cs2=c₀ :: cs)):=by
  cases x with
  | none =>
   refine ⟨_,rfl,.inr ⟨?_,rfl,?_⟩⟩
   ·simp only [recoverD,hmode,modeOf]
   ·have hm:c₀.mode=FrameMode.returning:=hmode
    simp only [modeOf]; rw [← hm]
  | some v =>
   refine ⟨_,rfl,.inl ?_⟩
   simp only [recoverD,hmode,modeOf]; rfl
 obtain ⟨cs2,hcs2,hrec⟩:=hrec
 refine wpSIn_seq (wpSIn_region_rec (F:=Fence.wide) (n:=0) rfl (fun _=>trivial) hop hc hg hrec ?_)




 suffices hsuf:wpListIn (fz none) 0 P (o0 :: l).toArray (fun e a' w'=>Exit.thenS (rest.wpSIn Fence.wide 0 P (bodyPostS P fn c₀ cs _)) (bodyPostS P fn c₀ cs _) e a' cs2 w') (l ++ []) _ w by
  rw [List.append_nil] at hsuf; exact hsuf
 refine runX_sound (C:=C) (L:=L) (K:=wpG P C L rest (fun e st' A' ρ'=>(e=.normal∨e=.ret)∧∃ vs,resA P A' ρ' fn.results.toList vs∧R st' ρ')) (Q:=fun _ _ _ _=>False) (tail:=[]) ?_ (fun _ _ _ _ _ _ _ h=>h.elim) l st _ ρ _ w hs1 (h C rfl rfl) 0
 intro a1 w1 st1 A1 ρ1 hs hk _
 refine wpSIn_of_wpIn rfl (wpIn_mono (hk a1 w1 hs 0) ?_)
 rintro e a2 w2 ⟨st2,A2,ρ2,hs2,he,vs,hvs,hR⟩
 obtain ⟨_,_,I2,β2,hk2,hg2,F2,⟨hF2,hM2,hD2⟩,hf2⟩:=hs2
 obtain ⟨u,hu,hru⟩:=results_run (P:=P) hf2 hvs
 have hsub:=hD2.sub hF2
 have fin:a2.defers=[]∧∃ u',cs2={ c₀ with mode:=u' } :: cs∧∃ v,(results fn a2.tmps).run P w2=.ok v w2∧∃ x_1 st' ρ' I' β',Ending.returned v=.returned x_1∧u'=modeOf true x∧R st' ρ'∧Keeps (fun b=>F b∧¬ blk L b) w w2∧Grow w w2 I I' ρ.length ρ'.length β β'∧SR w2 F I' β' ρ'∧LDyn F w2 L st' :=
  ⟨hM2,_,hcs2,u,hu,u,st2,ρ2,I2,β2,rfl,rfl,hR,hk2,hg2,hf2.sr.shrink hsub,hD.back hD2⟩
 rcases he with rfl | rfl
 ·exact fin
 ·exact fin

end
end Go.Lg
