import Derived.RangeFuncNested
import Derived.Test.YtmjbflifegmmnaaLp
set_option linter.unusedVariables false
set_option linter.unusedSimpArgs false
namespace Go.Lg
open Go.RowKit
variable {P:Program}


inductive LS where
 | ready
 | busy
 | done (c:Code)

structure LoopV where
 r:Nat
 l:Nat
 fn:FuncId
 tmps:Array Value
 D:Nat
 ps:Array Tmp
 assign:Code
 body:Code
 A:List AV

def LoopV.mk2 (e:LoopV):LS→Loop
 | .ready=>{ state:=.ready,pending:=none,fn:=e.fn,tmps:=e.tmps,params:=e.ps,assign:=e.assign,body:=e.body,defers:=e.D }
 | .busy=>{ state:=.busy,pending:=none,fn:=e.fn,tmps:=e.tmps,params:=e.ps,assign:=e.assign,body:=e.body,defers:=e.D }
 | .done c=>{ state:=.done,pending:=some c,fn:=e.fn,tmps:=e.tmps,params:=e.ps,assign:=e.assign,body:=e.body,defers:=e.D }

def blk (L:List LoopV) (b:Nat):Prop:=∃ e ∈ L,e.l=b

structure LStat (g:World) (I:Nat→Prop) (N:Nat) (β:Nat→Option Loc) (L:List LoopV):Prop where
 nd:(L.map (·.l)).Nodup
 row:∀ e ∈ L,e.r<N∧∃ loc,β e.r=some loc∧loc.b=e.l
 size:∀ e ∈ L,e.tmps.size=e.A.length
 rel:∀ e ∈ L,∀ i,i<e.A.length→Rel (cellf g) I N β (e.A.getD i .any) (e.tmps.getD i undef)

theorem LStat.grow {g w I I' N N' β β' L} (h:LStat g I N β L) (k:Grow g w I I' N N' β β'):LStat w I' N' β' L :=
 ⟨h.nd,fun e he=>⟨Nat.lt_of_lt_of_le (h.row e he).1 k.hN,by
  obtain ⟨loc,h1,h2⟩:=(h.row e he).2
  exact ⟨loc,(k.hβ _ (h.row e he).1).trans h1,h2⟩⟩,h.size,fun e he i hi=>k.rel (h.rel e he i hi)⟩

def LDyn (F:Nat→Prop) (w:World) (L:List LoopV) (st:List LS):Prop :=
 st.length=L.length∧∀ (k:Nat) (e:LoopV) (s:LS),L[k]?=some e→st[k]?=some s→F e.l∧w.heap[e.l]?=some (.loop (e.mk2 s))

def SRelG (C:Ctx) (L:List LoopV) (st:List LS) (a:Act) (w:World) (A:List AV) (ρ:Store):Prop :=
 LStat C.g0 C.I0 C.n0 C.β0 L∧(∀ e ∈ L,¬ C.F e.l)∧∃ I β,Keeps C.F C.w0 w∧Grow C.g0 w C.I0 I C.n0 ρ.length C.β0 β ∧
  ∃ F',((∀ b,C.F b→F' b)∧C.M a.defers∧LDyn F' w L st)∧FRel w F' I β a A ρ

theorem LDyn.at {F:Nat→Prop} {w:World} {L:List LoopV} {st:List LS} (h:LDyn F w L st) {e:LoopV} (he:e ∈ L):∃ (k:Nat) (s:LS),L[k]?=some e∧st[k]?=some s∧F e.l∧w.heap[e.l]?=some (.loop (e.mk2 s)):=by
 obtain ⟨k,hk,rfl⟩:=List.getElem_of_mem he
 have hk':k<st.length:=by rw [h.1]; exact hk
 exact ⟨k,st[k],List.getElem?_eq_getElem hk,List.getElem?_eq_getElem hk',h.2 k _ _ (List.getElem?_eq_getElem hk) (List.getElem?_eq_getElem hk')⟩

theorem LDyn.keep {F F':Nat→Prop} {w w':World} {L:List LoopV} {st:List LS} (h:LDyn F w L st) (hF:∀ b,F b→F' b) (hk:∀ b,F b→w'.heap[b]?=w.heap[b]?):LDyn F' w' L st :=
 ⟨h.1,fun k e s h1 h2=>⟨hF _ (h.2 k e s h1 h2).1,(hk _ (h.2 k e s h1 h2).1).trans (h.2 k e s h1 h2).2⟩⟩

theorem SRelG.open {C L st a w A ρ} (hs:SRelG C L st a w A ρ):∃ C':Ctx,(C'.rd=C.rd∧C'.n0=C.n0∧(C.own→C'.own))∧SRel C' a w A ρ∧∀ a' w' A' ρ',SRel C' a' w' A' ρ'→SRelG C L st a' w' A' ρ':=by
 obtain ⟨hL,hLF,I,β,hk,h0,F',⟨hF,hM,hD⟩,hf⟩:=hs
 refine ⟨⟨F',C.I0,w,C.g0,C.rd,C.rg,C.M,fun hg D l hD=>C.up hg D l (Nat.le_trans hk.size hD),C.n0,C.β0⟩,⟨rfl,rfl,fun h b hb=>hF b (h b hb)⟩,⟨I,β,Keeps.refl _ _,h0,F',⟨fun _ h=>h,hM⟩,hf⟩,?_⟩
 rintro a' w' A' ρ' ⟨I',β',hk',h0',F2,⟨hF2,hM2⟩,hf'⟩
 exact ⟨hL,hLF,I',β',hk.trans (hk'.sub hF),h0',F2,⟨fun b hb=>hF2 b (hF b hb),hM2,hD.keep hF2 hk'.block⟩,hf'⟩

def wpG (P:Program) (C:Ctx) (L:List LoopV) (c:Code) (Q:Exit→List LS→List AV→Store→Prop) (st:List LS) (A:List AV) (ρ:Store):Prop :=
 ∀ a w,SRelG C L st a w A ρ→∀ n,c.wpIn (fz C.rd) n P (fun e a' w'=>∃ st' A' ρ',SRelG C L st' a' w' A' ρ'∧Q e st' A' ρ') a w

def thenG (K:List LS→List AV→Store→Prop) (Q:Exit→List LS→List AV→Store→Prop):Exit→List LS→List AV→Store→Prop
 | .normal,st,A,ρ=>K st A ρ
 | e,st,A,ρ=>Q e st A ρ
section
variable {C:Ctx} {L:List LoopV} {Q:Exit→List LS→List AV→Store→Prop} {st:List LS} {A:List AV} {ρ:Store}

theorem SRelG.evalBool {a w} (hs:SRelG C L st a w A ρ) {c:Operand} {b:Bool} (hb:aev A c=.sc (.bool b)):a.eval c=.bool b:=by
 obtain ⟨_,_,I,β,_,_,_,_,hfr⟩:=hs
 have:=hfr.eval c
 rw [hb] at this
 generalize a.eval c=v at this
 cases this; rfl
theorem SRelG.weaken {A':List AV} {ρ':Store} (h:∀ C' a w,C'.rd=C.rd∧C'.n0=C.n0∧(C.own→C'.own)→SRel C' a w A ρ→SRel C' a w A' ρ') {a w} (hs:SRelG C L st a w A ρ):SRelG C L st a w A' ρ':=by
 obtain ⟨C',hC,h1,h2⟩:=hs.open
 exact h2 _ _ _ _ (h C' a w hC h1)

end

def DoesG (P:Program) (L:List LoopV) (f:FuncId) (args:List AV) (st:List LS) (ρ:Store) (R:AV→List LS→Store→Prop):Prop :=
 ∀ (w:World) (F I:Nat→Prop) (β:Nat→Option Loc) (vals:Array Value),SR w F I β ρ→LStat w I ρ.length β L→LDyn F w L st→RelL (cellf w) I ρ.length β args vals.toList →
  Calls P f vals w fun e w'=>∃ u v st' ρ' I' β',e=.returned u∧R v st' ρ'∧Keeps (fun b=>F b∧¬ blk L b) w w'∧Grow w w' I I' ρ.length ρ'.length β β'∧SR w' F I' β' ρ'∧LDyn F w' L st'∧Rel (cellf w') I' ρ'.length β' v u

theorem DoesG.mono {L f args st ρ} {R R':AV→List LS→Store→Prop} (h:DoesG P L f args st ρ R) (hR:∀ v st ρ,R v st ρ→R' v st ρ):DoesG P L f args st ρ R' :=
 fun w F I β vals h1 h2 h3 h4=>(h w F I β vals h1 h2 h3 h4).mono fun e w' ⟨u,v,st',ρ',I',β',he,hr,h⟩=>⟨u,v,st',ρ',I',β',he,hR _ _ _ hr,h⟩

theorem DoesS.mono {f args ρ} {R R':AV→Store→Prop} (h:DoesS P f args ρ R) (hR:∀ v ρ,R v ρ→R' v ρ):DoesS P f args ρ R' :=
 fun w F I β vals h1 h2=>(h w F I β vals h1 h2).mono fun e w' ⟨u,v,ρ',I',β',he,hr,h⟩=>⟨u,v,ρ',I',β',he,hR _ _ hr,h⟩

theorem FRel.putM {w w' F F' I I' β β' a A ρ ρ'} (h:FRel w F I β a A ρ) (dst:Option Tmp) {v:AV} {u:Value} (g:Grow w w' I I' ρ.length ρ'.length β β')
  (hsr:SR w' F' I' β' ρ') (hm:Marked w' F' I' a) (hv:Rel (cellf w') I' ρ'.length β' v u):FRel w' F' I' β' (a.put dst u) (putA A dst v) ρ':=by
 have hold:∀ i,i<A.length→Rel (cellf w') I' ρ'.length β' (A.getD i .any) (a.tmps.getD i undef):=fun i hi=>g.rel (h.rel i hi)
 cases dst with
 | none=>exact ⟨hsr,hm.put none u,h.size,hold⟩
 | some d =>
  refine ⟨hsr,hm.put (some d) u,by simp [Act.put,putA,h.size],fun i hi=>?_⟩
  have hi':i<A.length:=by simpa [putA] using hi
  simp only [putA,Act.put]
  by_cases e:d=i
  ·subst e
   have e1:(A.set d v).getD d .any=v:=by simp [List.getD,hi']
   have e2:(a.tmps.setIfInBounds d u).getD d undef=u:=by simp [Array.getD,h.size,hi']
   rw [e1,e2]; exact hv
  ·have e1:(A.set d v).getD i .any=A.getD i .any:=by simp [List.getD,List.getElem?_set_ne e]
   have e2:(a.tmps.setIfInBounds d u).getD i undef=a.tmps.getD i undef:=by
    by_cases hs':i<a.tmps.size <;> simp [Array.getD,hs',Array.getElem_setIfInBounds_ne,e]
   rw [e1,e2]; exact hold i hi'

theorem Marked.loops {w w' F F' I I' N N' β β' a L st} (h:Marked w F I a) (hD:LDyn F w L st) (hk:Keeps (fun b=>F b∧¬ blk L b) w w') (g:Grow w w' I I' N N' β β') (hF:∀ b,F b→F' b):Marked w' F' I' a:=by
 obtain ⟨Ds,h1,h2,h3⟩:=h
 refine ⟨Ds,h1,h2,fun D hd=>?_⟩
 obtain ⟨a1,a2,a3⟩:=h3 D hd
 have hlt:D<w.heap.size:=(Array.getElem?_eq_some_iff.1 a3).1
 refine ⟨hF _ a1,fun hi=>(g.hI2 D hi).elim a2 (fun h=>Nat.lt_irrefl _ (Nat.lt_of_lt_of_le hlt h)),(hk.block D ⟨a1,?_⟩).trans a3⟩
 rintro ⟨e,he,rfl⟩
 obtain ⟨k,s,_,_,_,hh⟩:=hD.at he
 rw [a3] at hh; cases hh

def fnOf (f:AV) (args:List AV):Option (FuncId × List AV):=match f with
 | .sc (.func (.func g) fs cs)=>if fs.isEmpty && cs.isEmpty then some (g,args) else none
 | .clo (.func g) fs cs=>some (g,fs ++ args ++ cs)
 | _=>none

theorem fnOf_vals {w F I β a A ρ} (hs:FRel w F I β a A ρ) {f:Operand} {g:FuncId} {args:List AV} {xs:List AV} {ys:Array Value} (h:fnOf (aev A f) xs=some (g,args)) (hl:RelL (cellf w) I ρ.length β xs ys.toList) :
  ∃ us vs,a.eval f=.func (.func g) us vs∧RelL (cellf w) I ρ.length β args (us ++ ys ++ vs).toList:=by
 have hf:=hs.eval f
 unfold fnOf at h
 split at h
 ·rename_i g' fs cs he
  split at h
  ·rename_i hc
   simp only [Bool.and_eq_true,Array.isEmpty_iff] at hc
   obtain ⟨rfl,rfl⟩:=hc
   cases h
   rw [he] at hf
   generalize a.eval f=vf at hf
   cases hf
   exact ⟨#[],#[],rfl,by simpa using hl⟩
  ·cases h
 ·rename_i g' fs cs he
  cases h
  rw [he] at hf
  generalize a.eval f=vf at hf
  cases hf with
  | clo _ _ _ us vs hm hu hn hv =>
   have hus:RelL (cellf w) I ρ.length β fs us.toList:=⟨by simpa using hm,fun j hj=>by
    have:=hu j hj
    have hj':j<us.size:=by omega
    simpa [Array.getD,List.getD,hj'] using this⟩
   have hvs:RelL (cellf w) I ρ.length β cs vs.toList:=⟨by simpa using hn,fun j hj=>by
    have:=hv j hj
    have hj':j<vs.size:=by omega
    simpa [Array.getD,List.getD,hj'] using this⟩
   exact ⟨us,vs,rfl,by simpa using (hus.append hl).append hvs⟩
 ·cases h

theorem fnOf_run {w F I β a A ρ} (hs:FRel w F I β a A ρ) {o:Oper} {c:Call} {f:Operand} {g:FuncId} {args:List AV} (ho:o.op=.call c) (hc:c.callee=.value f) (h:fnOf (aev A f) (c.args.toList.map (aev A))=some (g,args)) (hcb:callable P g=true) :
  ∃ vals,(execOp a.eval o).run P w=.ok (.enter g vals) w∧RelL (cellf w) I ρ.length β args vals.toList:=by
 have hl:=RelL.of_map A a.eval hs.eval c.args.toList
 obtain ⟨us,vs,hvf,hrel⟩:=fnOf_vals hs (ys:=c.args.map a.eval) h (by simpa using hl)
 refine ⟨us ++ c.args.map a.eval ++ vs,?_,hrel⟩
 have e0:(resolve a.eval c o.type).run P w=.ok { target:=.fn (.func g) vs,args:=us ++ c.args.map a.eval } w:=by
  unfold resolve; rw [hc]; simp [hvf,Deferred.ofValue]
 unfold execOp
 simp [ho,e0,invoke,run_callFunc hcb]

section
variable {C:Ctx} {L:List LoopV} {st:List LS} {A:List AV} {ρ:Store}

theorem aop_srelG {o:Oper} {a w v ρ'} (hs:SRelG C L st a w A ρ) (h:aop P o (aev A) ρ v ρ') {K:Act→World→Prop} {Q:Exit→Act→World→Prop}
  (hK:∀ a' w',SRelG C L st a' w' (putA A o.dst v) ρ'→K a' w') (n:Nat):o.wpIn (fz C.rd) n P a w K Q:=by
 obtain ⟨C',hC,h1,h2⟩:=hs.open
 have:=aop_srel (Q:=Q) h1 h (fun a' w' hs'=>hK a' w' (h2 _ _ _ _ hs')) n
 rwa [hC.1] at this

theorem DoesG.of {f:FuncId} {fn:Func} {c:Code} {args:List AV} {R:AV→List LS→Store→Prop} (hf:P.funcs[f]?=some fn) (hb:fn.body=some c)
  (h:∀ C:Ctx,C.rd=none→C.n0=ρ.length→C.rg=true→wpG P C L c (fun e st' A' ρ'=>(e=.normal∨e=.ret)∧∃ A'' ρ'' vs,(∀ a w,SRelG C L st' a w A' ρ'→SRelG C L st' a w A'' ρ'')∧resA P A'' ρ'' fn.results.toList vs∧R (one? vs) st' ρ'') st (args ++ List.replicate (fn.ntmps - args.length) .any) ρ) :
  DoesG P L f args st ρ R:=by
 intro w F I β vals hsr0 hL hD hrel
 refine (callsIn_wide (n:=0)).1 (callsIn_of_wp_marks (F:=Fence.wide) (n:=0) hf hb trivial ?_ rfl)
 have hlen:vals.size=args.length:=by simpa using hrel.1
 have hlt:∀ e ∈ L,e.l<w.heap.size:=fun e he=>by
  obtain ⟨k,s,_,_,_,hh⟩:=hD.at he
  exact (Array.getElem?_eq_some_iff.1 hh).1
 let C:Ctx:=⟨fun b=>F b∧¬ blk L b,I,w,w,none,true,preM w.heap.size [],fun _ D l=>preM_up D l,ρ.length,β⟩
 have hs:SRelG C L st { tmps:=vals ++ Array.replicate (fn.ntmps - vals.size) undef,defers:=[] } w (args ++ List.replicate (fn.ntmps - args.length) .any) ρ:=by
  refine ⟨hL,fun e he hb=>hb.2 ⟨e,he,rfl⟩,I,β,Keeps.refl _ _,Grow.refl _ _ _ _,F,⟨fun b hb=>hb.1,preM_refl _ _,hD⟩,⟨hsr0,⟨[],List.nodup_nil,rfl,by simp⟩,by simp [hlen],fun i hi=>?_⟩⟩
  by_cases h1:i<args.length
  ·rw [getD_app_left _ _ _ _ h1]
   have:=hrel.2 i h1
   have h2:i<vals.size:=by omega
   have e:(vals ++ Array.replicate (fn.ntmps - vals.size) undef).getD i undef=vals.toList.getD i undef:=by
    have h3:i<(vals ++ Array.replicate (fn.ntmps - vals.size) undef).size:=by simp; omega
    simp only [Array.getD,h3,dif_pos,List.getD]
    rw [List.getElem?_eq_getElem (by simpa using h2)]
    simp [Array.getElem_append_left h2]
   rw [e]; exact this
  ·have:(args ++ List.replicate (fn.ntmps - args.length) AV.any).getD i .any=.any:=by
    rw [getD_app_right _ _ _ _ (by omega)]
    unfold List.getD
    by_cases h2:i - args.length<fn.ntmps - args.length
    ·simp [h2]
    ·rw [List.getElem?_eq_none (by simp; omega)]; rfl
   rw [this]; exact .any _
 refine wpIn_mono (h C rfl rfl rfl _ w hs 0) ?_
 rintro e a' w' ⟨st',A0,ρ0,hs0,he,A',ρ',vs,hwk,hvs,hR⟩
 obtain ⟨_,_,I',β',hk,h0,F',⟨hF1,hF2,hD'⟩,hf'⟩:=hwk _ _ hs0
 obtain ⟨Ds,hnd,hdef,hDs⟩:=hf'.df
 obtain ⟨hdef,hge⟩:=preM_nil hF2 hdef
 have hsub:∀ b,F b→F' b:=fun b hb=>by
  by_cases hbl:blk L b
  ·obtain ⟨e,he,rfl⟩:=hbl
   obtain ⟨k,s,_,_,h1,_⟩:=hD'.at he
   exact h1
  ·exact hF1 b ⟨hb,hbl⟩
 have hfin:LeavesInM Fence.wide 0 P fn a'.tmps (fun e w'=>∃ u v st' ρ' I' β',e=.returned u∧R v st' ρ'∧Keeps (fun b=>F b∧¬ blk L b) w w'∧Grow w w' I I' ρ.length ρ'.length β β'∧SR w' F I' β' ρ'∧LDyn F w' L st'∧Rel (cellf w') I' ρ'.length β' v u) a'.defers .returning w':=by
  rw [hdef]
  refine leaves_marks Ds w' hnd (fun D hD=>(hDs D hD).2.2) (fun w2 e1 e2 e3 e4 e5 e6 e7=>?_)
  obtain ⟨hsr2,hrel2⟩:=hf'.marks (G:=F') (fun _ h=>h) e4 e6 e7 (fun b hb=>e5 b fun hD=>hb (hDs b hD).1)
  have hf2:FRel w2 F' I' β' { a' with defers:=[] } A' ρ':=⟨hsr2,⟨[],List.nodup_nil,rfl,by simp⟩,hf'.size,hrel2⟩
  obtain ⟨u,hu,hru⟩:=results_run (P:=P) hf2 hvs
  have hg2:Grow w' w2 I' I' ρ'.length ρ'.length β' β':=⟨fun b o x _ hx=>by rw [e6]; exact hx,fun b o hx=>by rw [e6]; exact hx,fun _ h=>h,Nat.le_refl _,fun _ _=>rfl,fun _ h=>.inl h,by rw [e4]; exact Nat.le_refl _⟩
  have hold:∀ b,F b→w2.heap[b]?=w'.heap[b]?:=fun b hb=>e5 b (fun hD=>Nat.lt_irrefl _ (Nat.lt_of_lt_of_le (hsr0.flt b hb) (hge b hD)))
  refine ⟨u,hu,u,one? vs,st',ρ',I',β',rfl,hR,⟨e1.trans hk.os,e2.trans hk.tape,e3.trans hk.output,by rw [e4]; exact hk.size,fun b hb=>(hold b hb.1).trans (hk.block b hb)⟩,h0.trans hg2,?_,?_,hru⟩
  ·exact ⟨fun r R l h1 h2=>by
    obtain ⟨a1,a2,a3,a4⟩:=hsr2.real r R l h1 h2
    exact ⟨a1,a2,a3,fun h=>a4 (hsub _ h)⟩,hsr2.cells,hsr2.phantom,hsr2.inj,hsr2.ilt,fun b hb=>Nat.lt_of_lt_of_le (hsr0.flt b hb) (by rw [e4]; exact hk.size),hsr2.thaw,hsr2.obs⟩
  ·refine ⟨hD'.1,fun k e s h1 h2=>?_⟩
   obtain ⟨k',s',_,_,h3,_⟩:=hD.at (List.mem_of_getElem? h1)
   exact ⟨h3,(hold _ h3).trans (hD'.2 k e s h1 h2).2⟩
 rcases he with rfl | rfl
 ·exact hfin
 ·exact hfin
end
end Go.Lg

namespace Go.Lg
open Go.RowKit
variable {P:Program}

theorem SR.putObj {w F I β ρ} (hs:SR w F I β ρ) {l:Nat} {o o':Obj} (h:w.heap[l]?=some o) (ho:o.isCells=false) (ho':o'.isCells=false) (hF:F l):SR (w.putObj l o') F I β ρ:=by
 have hc:=cellf_putObj h ho ho'
 have hz:=frozen_putObj h ho ho'
 constructor
 ·intro r R l h1 h2; rw [World.putObj_size]; exact hs.real r R l h1 h2
 ·intro r R l h1 h2; rw [hc]; exact hs.cells r R l h1 h2
 ·exact hs.phantom
 ·exact hs.inj
 ·intro b hb; rw [World.putObj_size]; exact hs.ilt b hb
 ·intro b hb; rw [World.putObj_size]; exact hs.flt b hb
 ·intro r R l h1 h2 k; rw [hz]; exact hs.thaw r R l h1 h2 k
 ·intro r R q h1 h2
  obtain ⟨e,m,x,h3,h4,h5⟩:=hs.obs r R q h1 h2
  exact ⟨e,m,x,h3,by rw [World.putObj_heap_other (show m.b≠l from fun e=>(hs.real r R m h1 h3).2.2.2 (e ▸ hF))]; exact h4,by rw [hc]; exact h5⟩

theorem LStat.inj {g I N β L} (h:LStat g I N β L) {j k:Nat} {e f:LoopV} (h1:L[j]?=some e) (h2:L[k]?=some f) (hl:e.l=f.l):j=k:=by
 have hj:=(List.getElem?_eq_some_iff.1 h1)
 have hk:=(List.getElem?_eq_some_iff.1 h2)
 obtain ⟨hj1,hj2⟩:=hj
 obtain ⟨hk1,hk2⟩:=hk
 have hnd:=List.pairwise_iff_getElem.1 h.nd
 rcases Nat.lt_trichotomy j k with hlt | heq | hlt
 ·have:=hnd j k (by simpa using hj1) (by simpa using hk1) hlt
  simp [hj2,hk2,hl] at this
 ·exact heq
 ·have:=hnd k j (by simpa using hk1) (by simpa using hj1) hlt
  simp [hj2,hk2,hl] at this

section
variable {C:Ctx} {L:List LoopV} {st:List LS} {A:List AV} {ρ:Store}

theorem SRelG.setLoop {a w} (hs:SRelG C L st a w A ρ) {k:Nat} {e:LoopV} {s:LS} (hk:L[k]?=some e) (hst:st[k]?=some s) (s':LS) :
  SRelG C L (st.set k s') a (w.putObj e.l (.loop (e.mk2 s'))) A ρ:=by
 obtain ⟨hL,hLF,I,β,hkp,h0,F',⟨hF,hM,hD⟩,hf⟩:=hs
 obtain ⟨hFl,hh⟩:=hD.2 k e s hk hst
 have hlt:e.l<w.heap.size:=(Array.getElem?_eq_some_iff.1 hh).1
 have hne:∀ b,b≠e.l→(w.putObj e.l (.loop (e.mk2 s'))).heap[b]?=w.heap[b]?:=fun b hb=>World.putObj_heap_other hb
 refine ⟨hL,hLF,I,β,⟨hkp.os,hkp.tape,hkp.output,by rw [World.putObj_size]; exact hkp.size,fun b hb=>(hne b (fun h=>hLF e (List.mem_of_getElem? hk) (h ▸ hb))).trans (hkp.block b hb)⟩,
  h0.trans (Grow.putObj hh rfl rfl _ _ _),F',⟨hF,hM,⟨by simpa using hD.1,fun j f t h1 h2=>?_⟩⟩,⟨hf.sr.putObj hh rfl rfl hFl,?_,hf.size,fun i hi=>?_⟩⟩
 ·by_cases e1:j=k
  ·subst e1
   rw [hk] at h1; cases h1
   have hlen:j<st.length:=(List.getElem?_eq_some_iff.1 hst).1
   rw [List.getElem?_set_self hlen] at h2
   cases h2
   exact ⟨hFl,World.putObj_heap_same hlt⟩
  ·rw [List.getElem?_set_ne (fun h=>e1 h.symm)] at h2
   obtain ⟨h3,h4⟩:=hD.2 j f t h1 h2
   exact ⟨h3,(hne _ (fun h=>e1 (hL.inj h1 hk h))).trans h4⟩
 ·obtain ⟨Ds,h1,h2,h3⟩:=hf.df
  exact ⟨Ds,h1,h2,fun D hd=>⟨(h3 D hd).1,(h3 D hd).2.1,(hne D (fun h=>by
   have:=(h3 D hd).2.2
   rw [h,hh] at this; cases this)).trans (h3 D hd).2.2⟩⟩
 ·rw [cellf_putObj hh rfl rfl]; exact hf.rel i hi

def setPs (A:List AV) (ps:Array Tmp) (xs:List AV):List AV:=(ps.toList.zip xs).foldl (fun t p=>t.set p.1 p.2) A

theorem setPs_rel {c:Nat→Nat→Option Value} {I:Nat→Prop} {N:Nat} {β:Nat→Option Loc}:∀ (ps:List Tmp) (xs:List AV) (ys:List Value) (A:List AV) (t:Array Value),RelL c I N β xs ys→t.size=A.length →
  (∀ i,i<A.length→Rel c I N β (A.getD i .any) (t.getD i undef)) →
  ((ps.zip ys).foldl (fun t (p:Tmp × Value)=>t.setIfInBounds p.1 p.2) t).size=((ps.zip xs).foldl (fun t p=>t.set p.1 p.2) A).length ∧
  ∀ i,i<((ps.zip xs).foldl (fun t p=>t.set p.1 p.2) A).length→Rel c I N β (((ps.zip xs).foldl (fun t p=>t.set p.1 p.2) A).getD i .any) (((ps.zip ys).foldl (fun t (p:Tmp × Value)=>t.setIfInBounds p.1 p.2) t).getD i undef)
 | [],xs,ys,A,t,_,hs,h=>⟨hs,h⟩
 | p :: ps,[],ys,A,t,hr,hs,h=>by rw [hr.nil]; exact ⟨hs,h⟩
 | p :: ps,x :: xs,ys,A,t,hr,hs,h=>by
  obtain ⟨y,ys',rfl,hxy,hr'⟩:=hr.cons
  refine setPs_rel ps xs ys' (A.set p x) (t.setIfInBounds p y) hr' (by simpa using hs) (fun i hi=>?_)
  simp at hi
  by_cases e:p=i
  ·subst e
   have e1:(A.set p x).getD p .any=x:=by simp [List.getD,hi]
   have e2:(t.setIfInBounds p y).getD p undef=y:=by simp [Array.getD,hs,hi]
   rw [e1,e2]; exact hxy
  ·have e1:(A.set p x).getD i .any=A.getD i .any:=by simp [List.getD,List.getElem?_set_ne e]
   have e2:(t.setIfInBounds p y).getD i undef=t.getD i undef:=by
    by_cases hs':i<t.size <;> simp [Array.getD,hs',Array.getElem_setIfInBounds_ne,e]
   rw [e1,e2]; exact h i hi

def roundNext:Exit→Option (Bool × LS)
 | .normal=>some (true,.ready)
 | .ret=>some (false,.done .ret)
 | .exit id=>some (false,.done (.exit id))
 | _=>none

def YieldG (P:Program) (L:List LoopV) (k:Nat) (e:LoopV) (xs:List AV) (st:List LS) (ρ:Store) (R:Bool→List LS→Store→Prop):Prop :=
 st[k]?=some .ready∧xs.length=e.ps.size∧∀ Cb:Ctx,Cb.rd=some e.l→Cb.n0=ρ.length→Cb.rg=true →
  wpG P Cb L e.assign (thenG (fun st1 A1 ρ1=>st1[k]?=some .ready∧wpG P Cb L e.body (fun x st2 A2 ρ2=>st2[k]?=some .busy∧∃ b s,roundNext x=some (b,s)∧R b (st2.set k s) ρ2) (st1.set k .busy) A1 ρ1) (fun _ _ _ _=>False)) st (setPs e.A e.ps xs) ρ

theorem yield_srelG {o:Oper} {c:Call} {f:Operand} {k:Nat} {e:LoopV} {R:Bool→List LS→Store→Prop} {a w} (hs:SRelG C L st a w A ρ) (ho:o.op=.call c) (hc:c.callee=.value f)
  (hk:L[k]?=some e) (hf:aev A f=.yld e.r) (hy:YieldG P L k e (c.args.toList.map (aev A)) st ρ R) {K:Act→World→Prop} {Q:Exit→Act→World→Prop}
  (hK:∀ b st' ρ' a' w',R b st' ρ'→SRelG C L st' a' w' (putA A o.dst (.sc (.bool b))) ρ'→K a' w') (n:Nat):o.wpIn (fz C.rd) n P a w K Q:=by
 obtain ⟨hL,hLF,I,β,hkp,h0,F',⟨hF,hM,hD⟩,hfr⟩:=hs
 obtain ⟨hst,hlen,hw⟩:=hy
 obtain ⟨hFl,hh⟩:=hD.2 k e _ hk hst
 have hvf:a.eval f=.func (.yield e.l) #[] #[]:=by
  have h1:=hfr.eval f
  rw [hf] at h1
  obtain ⟨h2,loc,h3,h4⟩:=hL.row e (List.mem_of_getElem? hk)
  generalize a.eval f=v at h1
  generalize hx:AV.yld e.r=x at h1
  cases h1 <;> cases hx
  rename_i l _ hl
  rw [h0.hβ _ h2,h3] at hl
  cases hl
  rw [h4]
 have hrl:=RelL.of_map A a.eval hfr.eval c.args.toList
 have hargs:(c.args.toList.map a.eval)=(c.args.map a.eval).toList:=by simp
 rw [hargs] at hrl
 have hrun:=run_yield (P:=P) (args:=c.args.map a.eval) hh (by simpa [LoopV.mk2] using hlen)
 have hex:(execOp a.eval o).run P w=.ok (.round e.l e.fn ((e.ps.zip (c.args.map a.eval)).foldl (fun tmps (t,a)=>tmps.setIfInBounds t a) e.tmps) e.assign e.body) w:=by
  have e0:(resolve a.eval c o.type).run P w=.ok { target:=.fn (.yield e.l) #[],args:=c.args.map a.eval } w:=by
   unfold resolve; rw [hc]; simp [hvf,Deferred.ofValue]
  unfold execOp
  simp [ho,e0,invoke]
  rw [hrun]
  simp [LoopV.mk2]
 refine ⟨fun _ _=>trivial,?_⟩
 rw [Oper.semAt_eq _ _ _ (not_defer_of hex (fun d h=>nomatch h)),hex,Oper.uponIn_round]
 refine ⟨fun h=>by simp [fz,Fence.wide] at h,?_⟩
 let Cb:Ctx:=⟨fun b=>F' b∧¬ blk L b,I,w,w,some e.l,true,fun _=>True,fun _ _ _ _ _=>trivial,ρ.length,β⟩
 have hLw:LStat w I ρ.length β L:=hL.grow h0
 have hsb:SRelG Cb L st { tmps:=(e.ps.zip (c.args.map a.eval)).foldl (fun tmps (t,a)=>tmps.setIfInBounds t a) e.tmps,defers:=[] } w (setPs e.A e.ps (c.args.toList.map (aev A))) ρ:=by
  have hp:=setPs_rel e.ps.toList _ _ e.A e.tmps hrl (hLw.size e (List.mem_of_getElem? hk)) (hLw.rel e (List.mem_of_getElem? hk))
  have hfold:(e.ps.zip (c.args.map a.eval)).foldl (fun tmps (t,a)=>tmps.setIfInBounds t a) e.tmps=(e.ps.toList.zip (c.args.map a.eval).toList).foldl (fun t (p:Tmp × Value)=>t.setIfInBounds p.1 p.2) e.tmps:=by
   rw [← Array.foldl_toList,Array.toList_zip]
  refine ⟨hLw,fun e' he hb=>hb.2 ⟨e',he,rfl⟩,I,β,Keeps.refl _ _,Grow.refl _ _ _ _,F',⟨fun b hb=>hb.1,trivial,hD⟩,⟨hfr.sr,⟨[],List.nodup_nil,rfl,by simp⟩,?_,fun i hi=>?_⟩⟩
  ·rw [hfold]; exact hp.1
  ·rw [hfold]; exact hp.2 i hi
 have hround:RoundIn (fz C.rd) (n - 1) P e.l e.fn ((e.ps.zip (c.args.map a.eval)).foldl (fun tmps (t,a)=>tmps.setIfInBounds t a) e.tmps) e.assign e.body w
   (fun x w'=>∃ b st' ρ',x=.returned (.bool b)∧R b st' ρ'∧∃ a2 A2,SRelG Cb L st' a2 w' A2 ρ'):=by
  refine roundIn_of_wpIn trivial ?_
  have h1:=hw Cb rfl rfl rfl _ w hsb (n - 1)
  refine wpIn_mono h1 ?_
  rintro x a1 w1 ⟨st1,A1,ρ1,hs1,hq1⟩
  cases x with
  | normal =>
   obtain ⟨hst1,hq1⟩:=hq1
   have hh1:w1.heap[e.l]?=some (.loop (e.mk2 .ready)):=by
    obtain ⟨_,_,_,_,_,_,_,⟨_,_,hD1⟩,_⟩:=hs1
    exact (hD1.2 k e _ hk hst1).2
   refine ⟨_,run_beginRound hh1 rfl,?_⟩
   refine wpIn_mono (hq1 a1 _ (hs1.setLoop hk hst1 .busy) (n - 1)) ?_
   rintro x a2 w2 ⟨st2,A2,ρ2,hs2,hst2,b,s,hx,hR⟩
   have hh2:w2.heap[e.l]?=some (.loop (e.mk2 .busy)):=by
    obtain ⟨_,_,_,_,_,_,_,⟨_,_,hD1⟩,_⟩:=hs2
    exact (hD1.2 k e _ hk hst2).2
   cases x <;> simp only [roundNext,Option.some.injEq,Prod.mk.injEq,reduceCtorEq] at hx
   ·obtain ⟨rfl,rfl⟩:=hx
    exact ⟨_,_,run_endRound none hh2,_,_,_,rfl,hR,a2,A2,hs2.setLoop hk hst2 .ready⟩
   ·obtain ⟨rfl,rfl⟩:=hx
    exact ⟨_,_,run_endRound (some _) hh2,_,_,_,rfl,hR,a2,A2,hs2.setLoop hk hst2 (.done _)⟩
   ·obtain ⟨rfl,rfl⟩:=hx
    exact ⟨_,_,run_endRound (some .ret) hh2,_,_,_,rfl,hR,a2,A2,hs2.setLoop hk hst2 (.done .ret)⟩
  | _=>exact hq1.elim
 refine hround.mono ?_
 rintro x w' ⟨b,st',ρ',rfl,hR,a2,A2,hs2⟩
 refine hK b st' ρ' _ w' hR ?_
 obtain ⟨_,_,I2,β2,hk2,hg2,F2,⟨hF2,_,hD2⟩,hf2⟩:=hs2
 have hsub:∀ b,F' b→F2 b:=fun b hb=>by
  by_cases hbl:blk L b
  ·obtain ⟨e',he',rfl⟩:=hbl
   obtain ⟨_,_,_,_,h1,_⟩:=hD2.at he'
   exact h1
  ·exact hF2 b ⟨hb,hbl⟩
 exact ⟨hL,hLF,I2,β2,hkp.trans (hk2.sub fun b hb=>⟨hF b hb,fun ⟨e',he',hb'⟩=>hLF e' he' (hb' ▸ hb)⟩),h0.trans hg2,F2,⟨fun b hb=>hsub b (hF b hb),(by cases o.dst <;> exact hM),hD2⟩,
  hfr.putM o.dst hg2 hf2.sr (hfr.df.loops hD hk2 hg2 hsub) (.sc _)⟩
end
end Go.Lg

namespace Go.Lg
open Go.RowKit
variable {P:Program}

theorem SR.foreign {w F F' I β ρ} (hs:SR w F I β ρ) (hF:∀ b,F' b→b<w.heap.size) (hn:∀ r R l,ρ[r]?=some (some R)→β r=some l→¬ F' l.b):SR w F' I β ρ :=
 ⟨fun r R l h1 h2=>by
  obtain ⟨a1,a2,a3,_⟩:=hs.real r R l h1 h2
  exact ⟨a1,a2,a3,hn r R l h1 h2⟩,hs.cells,hs.phantom,hs.inj,hs.ilt,hF,hs.thaw,hs.obs⟩
theorem SR.alloc {w F I β ρ} (hs:SR w F I β ρ) (o:Obj):SR (w.alloc o) (fun b=>F b∨b=w.heap.size) I β ρ:=by
 have g:=Grow.alloc_root w o I ρ.length β none
 have hsz:=alloc_size w o
 constructor
 ·intro r R l h1 h2
  obtain ⟨a1,a2,a3,a4⟩:=hs.real r R l h1 h2
  exact ⟨a1,by omega,a3,fun h=>h.elim a4 (fun h=>by omega)⟩
 ·intro r R l h1 h2 i hi
  obtain ⟨b1,b2⟩:=hs.cells r R l h1 h2 i hi
  refine ⟨b1,fun j hj=>?_⟩
  obtain ⟨v,h3,h4⟩:=b2 j hj
  refine ⟨v,by rw [cellf_old _ _ (hs.real r R l h1 h2).2.1]; exact h3,?_⟩
  exact h4.mono (fun b k x _ h=>by rw [cellf_old w o (cellf_lt h)]; exact h) (fun b k h=>by rw [cellf_old w o (cellf_isSome_lt h)]; exact h) (fun _ h=>h) (Nat.le_refl _) (fun _ _=>rfl)
 ·exact hs.phantom
 ·exact hs.inj
 ·intro b hb; have:=hs.ilt b hb; omega
 ·intro b hb
  rcases hb with hb | hb
  ·have:=hs.flt b hb; omega
  ·omega
 ·intro r R l h1 h2 k
  rw [frozen_old _ _ (hs.real r R l h1 h2).2.1]; exact hs.thaw r R l h1 h2 k
 ·intro r R q h1 h2
  obtain ⟨e,l,x,h3,h4,h5⟩:=hs.obs r R q h1 h2
  exact ⟨e,l,x,h3,by rw [Go.RowKit.Below.heap_alloc w _ l.b (hs.real r R l h1 h3).2.1]; exact h4,h5.mono fun a v h=>h.mono (fun b k x _ h=>by rw [cellf_old w o (cellf_lt h)]; exact h) (fun b k h=>by rw [cellf_old w o (cellf_isSome_lt h)]; exact h) (fun _ h=>h) (Nat.le_refl _) (fun _ _=>rfl)⟩
theorem Grow.alloc (w:World) (o:Obj) (I:Nat→Prop) (N:Nat) (β):Grow w (w.alloc o) I I N N β β :=
 ⟨fun b k x _ h=>by rw [cellf_old w o (cellf_lt h)]; exact h,fun b k h=>by rw [cellf_old w o (cellf_isSome_lt h)]; exact h,fun _ h=>h,Nat.le_refl _,fun _ _=>rfl,fun _ h=>.inl h,by rw [alloc_size]; omega⟩
theorem Grow.noneRow (w:World) (I:Nat→Prop) (N:Nat) (β x):Grow w w I I N (N+1) β (bext β N x) :=
 ⟨fun _ _ _ _ h=>h,fun _ _ h=>h,fun _ h=>h,by omega,fun r hr=>bext_old hr,fun _ h=>.inl h,Nat.le_refl _⟩
theorem SR.noneRow {w F I β ρ} (hs:SR w F I β ρ) (x:Option Loc):SR w F I (bext β ρ.length x) (ρ ++ [none]):=by
 have hlen:(ρ ++ [(none:Option Root)]).length=ρ.length+1:=by simp
 have g:=Grow.noneRow w I ρ.length β x
 have old:∀ (r:Nat) (R:Root) l,(ρ ++ [none])[r]?=some (some R)→bext β ρ.length x r=some l→ρ[r]?=some (some R)∧β r=some l:=by
  intro r R l h1 h2
  rcases getElem?_snoc h1 with ⟨h3,h4⟩ | ⟨_,h4⟩
  ·rw [bext_old h3] at h2; exact ⟨h4,h2⟩
  ·cases h4
 constructor
 ·intro r R l h1 h2
  obtain ⟨h3,h4⟩:=old r R l h1 h2
  exact hs.real r R l h3 h4
 ·intro r R l h1 h2 i hi
  obtain ⟨h3,h4⟩:=old r R l h1 h2
  obtain ⟨b1,b2⟩:=hs.cells r R l h3 h4 i hi
  refine ⟨b1,fun j hj=>?_⟩
  obtain ⟨v,h5,h6⟩:=b2 j hj
  exact ⟨v,h5,by rw [hlen]; exact g.rel h6⟩
 ·intro r R h1 h2
  rcases getElem?_snoc h1 with ⟨h3,h4⟩ | ⟨_,h4⟩
  ·rw [bext_old h3] at h2; exact hs.phantom r R h4 h2
  ·cases h4
 ·intro r s R S l m h1 h2 h3 h4 he
  obtain ⟨a1,a2⟩:=old r R l h1 h3
  obtain ⟨b1,b2⟩:=old s S m h2 h4
  exact hs.inj r s R S l m a1 b1 a2 b2 he
 ·exact hs.ilt
 ·exact hs.flt
 ·intro r R l h1 h2
  obtain ⟨h3,h4⟩:=old r R l h1 h2
  exact hs.thaw r R l h3 h4
 ·intro r R q h1 h2
  rcases getElem?_snoc h1 with ⟨h3,h4⟩ | ⟨_,h4⟩
  ·obtain ⟨e,l,y,h5,h6,h7⟩:=hs.obs r R q h4 h2
   exact ⟨e,l,y,by rw [bext_old h3]; exact h5,h6,by rw [hlen]; exact h7.mono fun a v=>g.rel⟩
  ·cases h4

theorem enter_loop {w F I β ρ} (hs:SR w F I β ρ) (rd:Option Nat) (hrd:∀ l0,rd=some l0→∃ r0,w.heap[l0]?=some (.loop r0)) (fn:FuncId) (tmps:Array Value) (ps:Array Tmp) (assign body:Code) :
  ∃ (l:Nat) (mark:List Deferred) (W:World) (D:Nat),(Instr.enterLoop fn tmps ps assign body rd).run P w=.ok (l,mark) W ∧
   (w.heap.size≤l∧l<W.heap.size)∧Keeps (fun b=>b<w.heap.size) w W∧(∀ N,Grow w W I I N N β β)∧SR W (fun b=>F b∨w.heap.size≤b∧b<W.heap.size) I β ρ ∧
   W.heap[l]?=some (.loop { state:=.ready,pending:=none,fn:=fn,tmps:=tmps,params:=ps,assign:=assign,body:=body,defers:=D }) ∧
   ((mark=[] )∨∃ M,mark=[dmark M]∧w.heap.size≤M∧M<W.heap.size∧M≠l∧W.heap[M]?=some (.deferred (some []))):=by
 cases rd with
 | none =>
  refine ⟨_,_,_,w.heap.size,run_enterLoop_outer _ _ _ _ _,?_,?_,fun N=>(Grow.alloc w _ I N β).trans (Grow.alloc _ _ I N β),?_,?_,.inr ⟨w.heap.size,rfl,Nat.le_refl _,?_,by omega,?_⟩⟩
  ·rw [alloc_size,alloc_size]; omega
  ·exact (Keeps.alloc w _ (fun b h=>h)).trans (Keeps.alloc _ _ (fun b h=>by rw [alloc_size]; omega))
  ·have h1:=(hs.alloc (.deferred (some []))).alloc (.loop { state:=.ready,pending:=none,fn:=fn,tmps:=tmps,params:=ps,assign:=assign,body:=body,defers:=w.heap.size })
   refine h1.foreign (fun b hb=>?_) (fun r R l h2 h3 hb=>?_)
   ·rcases hb with hb | hb
    ·have:=hs.flt b hb; rw [alloc_size,alloc_size]; omega
    ·exact hb.2
   ·obtain ⟨_,a2,_,a4⟩:=hs.real r R l h2 h3
    rcases hb with hb | hb
    ·exact a4 hb
    ·omega
  ·have:=World.alloc_heap_new (w.alloc (.deferred (some []))) (.loop { state:=.ready,pending:=none,fn:=fn,tmps:=tmps,params:=ps,assign:=assign,body:=body,defers:=w.heap.size })
   rwa [World.size_alloc] at this
  ·rw [alloc_size,alloc_size]; omega
  ·exact (Go.RowKit.Below.heap_alloc _ _ _ (by simp)).trans (World.alloc_heap_new w _)
 | some l0 =>
  obtain ⟨r0,hr0⟩:=hrd l0 rfl
  refine ⟨_,_,_,r0.defers,run_enterLoop_inner hr0 _ _ _ _ _,?_,?_,fun N=>Grow.alloc w _ I N β,?_,World.alloc_heap_new _ _,.inl rfl⟩
  ·rw [alloc_size]; omega
  ·exact Keeps.alloc w _ (fun b h=>h)
  ·refine (hs.alloc _).foreign (fun b hb=>?_) (fun r R l h2 h3 hb=>?_)
   ·rcases hb with hb | hb
    ·have:=hs.flt b hb; rw [alloc_size]; omega
    ·exact hb.2
   ·obtain ⟨_,a2,_,a4⟩:=hs.real r R l h2 h3
    rcases hb with hb | hb
    ·exact a4 hb
    ·omega

section
variable {C:Ctx} {L:List LoopV} {Q:Exit→List LS→List AV→Store→Prop} {st:List LS} {A:List AV} {ρ:Store}

end
end Go.Lg
