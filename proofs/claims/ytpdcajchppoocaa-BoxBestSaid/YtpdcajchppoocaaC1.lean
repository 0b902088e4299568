import Derived.RangeFuncNested
import Derived.Test.YtpdcajchppoocaaC0
set_option linter.unusedVariables false
set_option linter.unusedSimpArgs false
namespace Go.Lg
open Go.RowKit
variable {P:Program}


inductive LS where
 | ready
 | busy
 | done (c:Code)

structure LoopV where
 r:Nat
 l:Nat
 fn:FuncId
 tmps:Array Value
 D:Nat
 ps:Array Tmp
 assign:Code
 body:Code
 A:List AV

def LoopV.mk2 (e:LoopV):LS→Loop
 | .ready=>{ state:=.ready,pending:=none,fn:=e.fn,tmps:=e.tmps,params:=e.ps,assign:=e.assign,body:=e.body,defers:=e.D }
 | .busy=>{ state:=.busy,pending:=none,fn:=e.fn,tmps:=e.tmps,params:=e.ps,assign:=e.assign,body:=e.body,defers:=e.D }
 | .done c=>{ state:=.done,pending:=some c,fn:=e.fn,tmps:=e.tmps,params:=e.ps,assign:=e.assign,body:=e.body,defers:=e.D }

def blk (L:List LoopV) (b:Nat):Prop:=∃ e ∈ L,e.l=b

structure LStat (g:World) (I:Nat→Prop) (N:Nat) (β:Nat→Option Loc) (L:List LoopV):Prop where
 nd:(L.map (·.l)).Nodup
 row:∀ e ∈ L,e.r<N∧∃ loc,β e.r=some loc∧loc.b=e.l
 size:∀ e ∈ L,e.tmps.size=e.A.length
 rel:∀ e ∈ L,∀ i,i<e.A.length→Rel (cellf g) I N β (e.A.getD i .any) (e.tmps.getD i undef)

def LDyn (F:Nat→Prop) (w:World) (L:List LoopV) (st:List LS):Prop :=
 st.length=L.length∧∀ (k:Nat) (e:LoopV) (s:LS),L[k]?=some e→st[k]?=some s→F e.l∧w.heap[e.l]?=some (.loop (e.mk2 s))

def SRelG (C:Ctx) (L:List LoopV) (st:List LS) (a:Act) (w:World) (A:List AV) (ρ:Store):Prop :=
 LStat C.g0 C.I0 C.n0 C.β0 L∧(∀ e ∈ L,¬ C.F e.l)∧∃ I β,Keeps C.F C.w0 w∧Grow C.g0 w C.I0 I C.n0 ρ.length C.β0 β ∧
  ∃ F',((∀ b,C.F b→F' b)∧C.M a.defers∧LDyn F' w L st)∧FRel w F' I β a A ρ

theorem LDyn.at {F:Nat→Prop} {w:World} {L:List LoopV} {st:List LS} (h:LDyn F w L st) {e:LoopV} (he:e ∈ L):∃ (k:Nat) (s:LS),L[k]?=some e∧st[k]?=some s∧F e.l∧w.heap[e.l]?=some (.loop (e.mk2 s)):=by
 obtain ⟨k,hk,rfl⟩:=List.getElem_of_mem he
 have hk':k<st.length:=by rw [h.1]; exact hk
 exact ⟨k,st[k],List.getElem?_eq_getElem hk,List.getElem?_eq_getElem hk',h.2 k _ _ (List.getElem?_eq_getElem hk) (List.getElem?_eq_getElem hk')⟩

def wpG (P:Program) (C:Ctx) (L:List LoopV) (c:Code) (Q:Exit→List LS→List AV→Store→Prop) (st:List LS) (A:List AV) (ρ:Store):Prop :=
 ∀ a w,SRelG C L st a w A ρ→∀ n,c.wpIn (fz C.rd) n P (fun e a' w'=>∃ st' A' ρ',SRelG C L st' a' w' A' ρ'∧Q e st' A' ρ') a w

def thenG (K:List LS→List AV→Store→Prop) (Q:Exit→List LS→List AV→Store→Prop):Exit→List LS→List AV→Store→Prop
 | .normal,st,A,ρ=>K st A ρ
 | e,st,A,ρ=>Q e st A ρ
section
variable {C:Ctx} {L:List LoopV} {Q:Exit→List LS→List AV→Store→Prop} {st:List LS} {A:List AV} {ρ:Store}

end

def DoesG (P:Program) (L:List LoopV) (f:FuncId) (args:List AV) (st:List LS) (ρ:Store) (R:AV→List LS→Store→Prop):Prop :=
 ∀ (w:World) (F I:Nat→Prop) (β:Nat→Option Loc) (vals:Array Value),SR w F I β ρ→LStat w I ρ.length β L→LDyn F w L st→RelL (cellf w) I ρ.length β args vals.toList →
  Calls P f vals w fun e w'=>∃ u v st' ρ' I' β',e=.returned u∧R v st' ρ'∧Keeps (fun b=>F b∧¬ blk L b) w w'∧Grow w w' I I' ρ.length ρ'.length β β'∧SR w' F I' β' ρ'∧LDyn F w' L st'∧Rel (cellf w') I' ρ'.length β' v u

theorem FRel.putM {w w' F F' I I' β β' a A ρ ρ'} (h:FRel w F I β a A ρ) (dst:Option Tmp) {v:AV} {u:Value} (g:Grow w w' I I' ρ.length ρ'.length β β')
  (hsr:SR w' F' I' β' ρ') (hm:Marked w' F' I' a) (hv:Rel (cellf w') I' ρ'.length β' v u):FRel w' F' I' β' (a.put dst u) (putA A dst v) ρ':=by
 have hold:∀ i,i<A.length→Rel (cellf w') I' ρ'.length β' (A.getD i .any) (a.tmps.getD i undef):=fun i hi=>g.rel (h.rel i hi)
 cases dst with
 | none=>exact ⟨hsr,hm.put none u,h.size,hold⟩
 | some d =>
  refine ⟨hsr,hm.put (some d) u,by simp [Act.put,putA,h.size],fun i hi=>?_⟩
  have hi':i<A.length:=by simpa [putA] using hi
  simp only [putA,Act.put]
  by_cases e:d=i
  ·subst e
   have e1:(A.set d v).getD d .any=v:=by simp [List.getD,hi']
   have e2:(a.tmps.setIfInBounds d u).getD d undef=u:=by simp [Array.getD,h.size,hi']
   rw [e1,e2]; exact hv
  ·have e1:(A.set d v).getD i .any=A.getD i .any:=by simp [List.getD,List.getElem?_set_ne e]
   have e2:(a.tmps.setIfInBounds d u).getD i undef=a.tmps.getD i undef:=by
    by_cases hs':i<a.tmps.size <;> simp [Array.getD,hs',Array.getElem_setIfInBounds_ne,e]
   rw [e1,e2]; exact hold i hi'

def fnOf (f:AV) (args:List AV):Option (FuncId × List AV):=match f with
 | .sc (.func (.func g) fs cs)=>if fs.isEmpty && cs.isEmpty then some (g,args) else none
 | .clo (.func g) fs cs=>some (g,fs ++ args ++ cs)
 | _=>none

theorem fnOf_vals {w F I β a A ρ} (hs:FRel w F I β a A ρ) {f:Operand} {g:FuncId} {args:List AV} {xs:List AV} {ys:Array Value} (h:fnOf (aev A f) xs=some (g,args)) (hl:RelL (cellf w) I ρ.length β xs ys.toList) :
  ∃ us vs,a.eval f=.func (.func g) us vs∧RelL (cellf w) I ρ.length β args (us ++ ys ++ vs).toList:=by
 have hf:=hs.eval f
 unfold fnOf at h
 split at h
 ·rename_i g' fs cs he
  split at h
  ·rename_i hc
   simp only [Bool.and_eq_true,Array.isEmpty_iff] at hc
   obtain ⟨rfl,rfl⟩:=hc
   cases h
   rw [he] at hf
   generalize a.eval f=vf at hf
   cases hf
   exact ⟨#[],#[],rfl,by simpa using hl⟩
  ·cases h
 ·rename_i g' fs cs he
  cases h
  rw [he] at hf
  generalize a.eval f=vf at hf
  cases hf with
  | clo _ _ _ us vs hm hu hn hv =>
   have hus:RelL (cellf w) I ρ.length β fs us.toList:=⟨by simpa using hm,fun j hj=>by
    have:=hu j hj
    have hj':j<us.size:=by omega
    simpa [Array.getD,List.getD,hj'] using this⟩
   have hvs:RelL (cellf w) I ρ.length β cs vs.toList:=⟨by simpa using hn,fun j hj=>by
    have:=hv j hj
    have hj':j<vs.size:=by omega
    simpa [Array.getD,List.getD,hj'] using this⟩
   exact ⟨us,vs,rfl,by simpa using (hus.append hl).append hvs⟩
 ·cases h

theorem fnOf_run {w F I β a A ρ} (hs:FRel w F I β a A ρ) {o:Oper} {c:Call} {f:Operand} {g:FuncId} {args:List AV} (ho:o.op=.call c) (hc:c.callee=.value f) (h:fnOf (aev A f) (c.args.toList.map (aev A))=some (g,args)) (hcb:callable P g=true) :
  ∃ vals,(execOp a.eval o).run P w=.ok (.enter g vals) w∧RelL (cellf w) I ρ.length β args vals.toList:=by
 have hl:=RelL.of_map A a.eval hs.eval c.args.toList
 obtain ⟨us,vs,hvf,hrel⟩:=fnOf_vals hs (ys:=c.args.map a.eval) h (by simpa using hl)
 refine ⟨us ++ c.args.map a.eval ++ vs,?_,hrel⟩
 have e0:(resolve a.eval c o.type).run P w=.ok { target:=.fn (.func g) vs,args:=us ++ c.args.map a.eval } w:=by
  unfold resolve; rw [hc]; simp [hvf,Deferred.ofValue]
 unfold execOp
 simp [ho,e0,invoke,run_callFunc hcb]

section
variable {C:Ctx} {L:List LoopV} {st:List LS} {A:List AV} {ρ:Store}

end
end Go.Lg

namespace Go.Lg
open Go.RowKit
variable {P:Program}

theorem SR.putObj {w F I β ρ} (hs:SR w F I β ρ) {l:Nat} {o o':Obj} (h:w.heap[l]?=some o) (ho:o.isCells=false) (ho':o'.isCells=false) (hF:F l):SR (w.putObj l o') F I β ρ:=by
 have hc:=cellf_putObj h ho ho'
 have hz:=frozen_putObj h ho ho'
 constructor
 ·intro r R l h1 h2; rw [World.putObj_size]; exact hs.real r R l h1 h2
 ·intro r R l h1 h2; rw [hc]; exact hs.cells r R l h1 h2
 ·exact hs.phantom
 ·exact hs.inj
 ·intro b hb; rw [World.putObj_size]; exact hs.ilt b hb
 ·intro b hb; rw [World.putObj_size]; exact hs.flt b hb
 ·intro r R l h1 h2 k; rw [hz]; exact hs.thaw r R l h1 h2 k
 ·intro r R q h1 h2
  obtain ⟨e,m,x,h3,h4,h5⟩:=hs.obs r R q h1 h2
  exact ⟨e,m,x,h3,by rw [World.putObj_heap_other (show m.b≠l from fun e=>(hs.real r R m h1 h3).2.2.2 (e ▸ hF))]; exact h4,by rw [hc]; exact h5⟩

section
variable {C:Ctx} {L:List LoopV} {st:List LS} {A:List AV} {ρ:Store}

def setPs (A:List AV) (ps:Array Tmp) (xs:List AV):List AV:=(ps.toList.zip xs).foldl (fun t p=>t.set p.1 p.2) A

theorem setPs_rel {c:Nat→Nat→Option Value} {I:Nat→Prop} {N:Nat} {β:Nat→Option Loc}:∀ (ps:List Tmp) (xs:List AV) (ys:List Value) (A:List AV) (t:Array Value),RelL c I N β xs ys→t.size=A.length →
  (∀ i,i<A.length→Rel c I N β (A.getD i .any) (t.getD i undef)) →
  ((ps.zip ys).foldl (fun t (p:Tmp × Value)=>t.setIfInBounds p.1 p.2) t).size=((ps.zip xs).foldl (fun t p=>t.set p.1 p.2) A).length ∧
  ∀ i,i<((ps.zip xs).foldl (fun t p=>t.set p.1 p.2) A).length→Rel c I N β (((ps.zip xs).foldl (fun t p=>t.set p.1 p.2) A).getD i .any) (((ps.zip ys).foldl (fun t (p:Tmp × Value)=>t.setIfInBounds p.1 p.2) t).getD i undef)
 | [],xs,ys,A,t,_,hs,h=>⟨hs,h⟩
 | p :: ps,[],ys,A,t,hr,hs,h=>by rw [hr.nil]; exact ⟨hs,h⟩
 | p :: ps,x :: xs,ys,A,t,hr,hs,h=>by
  obtain ⟨y,ys',rfl,hxy,hr'⟩:=hr.cons
  refine setPs_rel ps xs ys' (A.set p x) (t.setIfInBounds p y) hr' (by simpa using hs) (fun i hi=>?_)
  simp at hi
  by_cases e:p=i
  ·subst e
   have e1:(A.set p x).getD p .any=x:=by simp [List.getD,hi]
   have e2:(t.setIfInBounds p y).getD p undef=y:=by simp [Array.getD,hs,hi]
   rw [e1,e2]; exact hxy
  ·have e1:(A.set p x).getD i .any=A.getD i .any:=by simp [List.getD,List.getElem?_set_ne e]
   have e2:(t.setIfInBounds p y).getD i undef=t.getD i undef:=by
    by_cases hs':i<t.size <;> simp [Array.getD,hs',Array.getElem_setIfInBounds_ne,e]
   rw [e1,e2]; exact h i hi

def roundNext:Exit→Option (Bool × LS)
 | .normal=>some (true,.ready)
 | .ret=>some (false,.done .ret)
 | .exit id=>some (false,.done (.exit id))
 | _=>none

def YieldG (P:Program) (L:List LoopV) (k:Nat) (e:LoopV) (xs:List AV) (st:List LS) (ρ:Store) (R:Bool→List LS→Store→Prop):Prop :=
 st[k]?=some .ready∧xs.length=e.ps.size∧∀ Cb:Ctx,Cb.rd=some e.l→Cb.n0=ρ.length→Cb.rg=true →
  wpG P Cb L e.assign (thenG (fun st1 A1 ρ1=>st1[k]?=some .ready∧wpG P Cb L e.body (fun x st2 A2 ρ2=>st2[k]?=some .busy∧∃ b s,roundNext x=some (b,s)∧R b (st2.set k s) ρ2) (st1.set k .busy) A1 ρ1) (fun _ _ _ _=>False)) st (setPs e.A e.ps xs) ρ

end
end Go.Lg

namespace Go.Lg
open Go.RowKit
variable {P:Program}

theorem SR.foreign {w F F' I β ρ} (hs:SR w F I β ρ) (hF:∀ b,F' b→b<w.heap.size) (hn:∀ r R l,ρ[r]?=some (some R)→β r=some l→¬ F' l.b):SR w F' I β ρ :=
 ⟨fun r R l h1 h2=>by
  obtain ⟨a1,a2,a3,_⟩:=hs.real r R l h1 h2
  exact ⟨a1,a2,a3,hn r R l h1 h2⟩,hs.cells,hs.phantom,hs.inj,hs.ilt,hF,hs.thaw,hs.obs⟩
theorem SR.alloc {w F I β ρ} (hs:SR w F I β ρ) (o:Obj):SR (w.alloc o) (fun b=>F b∨b=w.heap.size) I β ρ:=by
 have g:=Grow.alloc_root w o I ρ.length β none
 have hsz:=alloc_size w o
 constructor
 ·intro r R l h1 h2
  obtain ⟨a1,a2,a3,a4⟩:=hs.real r R l h1 h2
  exact ⟨a1,by omega,a3,fun h=>h.elim a4 (fun h=>by omega)⟩
 ·intro r R l h1 h2 i hi
  obtain ⟨b1,b2⟩:=hs.cells r R l h1 h2 i hi
  refine ⟨b1,fun j hj=>?_⟩
  obtain ⟨v,h3,h4⟩:=b2 j hj
  refine ⟨v,by rw [cellf_old _ _ (hs.real r R l h1 h2).2.1]; exact h3,?_⟩
  exact h4.mono (fun b k x _ h=>by rw [cellf_old w o (cellf_lt h)]; exact h) (fun b k h=>by rw [cellf_old w o (cellf_isSome_lt h)]; exact h) (fun _ h=>h) (Nat.le_refl _) (fun _ _=>rfl)
 ·exact hs.phantom
 ·exact hs.inj
 ·intro b hb; have:=hs.ilt b hb; omega
 ·intro b hb
  rcases hb with hb | hb
  ·have:=hs.flt b hb; omega
  ·omega
 ·intro r R l h1 h2 k
  rw [frozen_old _ _ (hs.real r R l h1 h2).2.1]; exact hs.thaw r R l h1 h2 k
 ·intro r R q h1 h2
  obtain ⟨e,l,x,h3,h4,h5⟩:=hs.obs r R q h1 h2
  exact ⟨e,l,x,h3,by rw [Go.RowKit.Below.heap_alloc w _ l.b (hs.real r R l h1 h3).2.1]; exact h4,h5.mono fun a v h=>h.mono (fun b k x _ h=>by rw [cellf_old w o (cellf_lt h)]; exact h) (fun b k h=>by rw [cellf_old w o (cellf_isSome_lt h)]; exact h) (fun _ h=>h) (Nat.le_refl _) (fun _ _=>rfl)⟩
theorem Grow.alloc (w:World) (o:Obj) (I:Nat→Prop) (N:Nat) (β):Grow w (w.alloc o) I I N N β β :=
 ⟨fun b k x _ h=>by rw [cellf_old w o (cellf_lt h)]; exact h,fun b k h=>by rw [cellf_old w o (cellf_isSome_lt h)]; exact h,fun _ h=>h,Nat.le_refl _,fun _ _=>rfl,fun _ h=>.inl h,by rw [alloc_size]; omega⟩
theorem Grow.noneRow (w:World) (I:Nat→Prop) (N:Nat) (β x):Grow w w I I N (N+1) β (bext β N x) :=
 ⟨fun _ _ _ _ h=>h,fun _ _ h=>h,fun _ h=>h,by omega,fun r hr=>bext_old hr,fun _ h=>.inl h,Nat.le_refl _⟩
theorem enter_loop {w F I β ρ} (hs:SR w F I β ρ) (rd:Option Nat) (hrd:∀ l0,rd=some l0→∃ r0,w.heap[l0]?=some (.loop r0)) (fn:FuncId) (tmps:Array Value) (ps:Array Tmp) (assign body:Code) :
  ∃ (l:Nat) (mark:List Deferred) (W:World) (D:Nat),(Instr.enterLoop fn tmps ps assign body rd).run P w=.ok (l,mark) W ∧
   (w.heap.size≤l∧l<W.heap.size)∧Keeps (fun b=>b<w.heap.size) w W∧(∀ N,Grow w W I I N N β β)∧SR W (fun b=>F b∨w.heap.size≤b∧b<W.heap.size) I β ρ ∧
   W.heap[l]?=some (.loop { state:=.ready,pending:=none,fn:=fn,tmps:=tmps,params:=ps,assign:=assign,body:=body,defers:=D }) ∧
   ((mark=[] )∨∃ M,mark=[dmark M]∧w.heap.size≤M∧M<W.heap.size∧M≠l∧W.heap[M]?=some (.deferred (some []))):=by
 cases rd with
 | none =>
  refine ⟨_,_,_,w.heap.size,run_enterLoop_outer _ _ _ _ _,?_,?_,fun N=>(Grow.alloc w _ I N β).trans (Grow.alloc _ _ I N β),?_,?_,.inr ⟨w.heap.size,rfl,Nat.le_refl _,?_,by omega,?_⟩⟩
  ·rw [alloc_size,alloc_size]; omega
  ·exact (Keeps.alloc w _ (fun b h=>h)).trans (Keeps.alloc _ _ (fun b h=>by rw [alloc_size]; omega))
  ·have h1:=(hs.alloc (.deferred (some []))).alloc (.loop { state:=.ready,pending:=none,fn:=fn,tmps:=tmps,params:=ps,assign:=assign,body:=body,defers:=w.heap.size })
   refine h1.foreign (fun b hb=>?_) (fun r R l h2 h3 hb=>?_)
   ·rcases hb with hb | hb
    ·have:=hs.flt b hb; rw [alloc_size,alloc_size]; omega
    ·exact hb.2
   ·obtain ⟨_,a2,_,a4⟩:=hs.real r R l h2 h3
    rcases hb with hb | hb
    ·exact a4 hb
    ·omega
  ·have:=World.alloc_heap_new (w.alloc (.deferred (some []))) (.loop { state:=.ready,pending:=none,fn:=fn,tmps:=tmps,params:=ps,assign:=assign,body:=body,defers:=w.heap.size })
   rwa [World.size_alloc] at this
  ·rw [alloc_size,alloc_size]; omega
  ·exact (Go.RowKit.Below.heap_alloc _ _ _ (by simp)).trans (World.alloc_heap_new w _)
 | some l0 =>
  obtain ⟨r0,hr0⟩:=hrd l0 rfl
  refine ⟨_,_,_,r0.defers,run_enterLoop_inner hr0 _ _ _ _ _,?_,?_,fun N=>Grow.alloc w _ I N β,?_,World.alloc_heap_new _ _,.inl rfl⟩
  ·rw [alloc_size]; omega
  ·exact Keeps.alloc w _ (fun b h=>h)
  ·refine (hs.alloc _).foreign (fun b hb=>?_) (fun r R l h2 h3 hb=>?_)
   ·rcases hb with hb | hb
    ·have:=hs.flt b hb; rw [alloc_size]; omega
    ·exact hb.2
   ·obtain ⟨_,a2,_,a4⟩:=hs.real r R l h2 h3
    rcases hb with hb | hb
    ·exact a4 hb
    ·omega

section
variable {C:Ctx} {L:List LoopV} {Q:Exit→List LS→List AV→Store→Prop} {st:List LS} {A:List AV} {ρ:Store}

end
end Go.Lg

namespace Go.Lg
variable {P:Program}

def packN (P:Program) (t:TypeId):Option (Option Nat):=if known P t then some (if aggB P t then some (P.cellsOf t) else none) else none
def packC (q:Option (Option Nat)) (cs:List AV):Option AV:=match q with
 | some (some n)=>if n≤cs.length then some (.agg (cs.take n)) else none
 | some none=>cs.head?
 | none=>none
theorem packC_eq (t:TypeId) (cs:List AV):packC (packN P t) cs=pack P t cs:=by
 unfold packC packN pack
 by_cases h:known P t=true <;> by_cases h2:aggB P t=true <;> simp [h,h2]
def fieldOff (P:Program) (s:TypeId) (f:Nat):Option (Nat × Option (Option Nat)):=match P.underlying s with
 | some (.struct fs)=>(match fs[f]? with
  | some fd=>if known P fd.type=true∧P.cellsOf fd.type≠0 then some (fd.offset,packN P fd.type) else none
  | none=>none)
 | _=>none
def slElem (P:Program) (t:TypeId):Option (TypeId × Nat):=match P.underlying t with
 | some (.slice e)=>if known P e then some (e,P.cellsOf e) else none
 | _=>none
def arElem (P:Program) (t:TypeId):Option (Nat × TypeId × Nat):=match P.underlying t with
 | some (.array n e)=>if known P e then some (n,e,P.cellsOf e) else none
 | _=>none

theorem slElem_spec {t:TypeId} {q} (h:slElem P t=some q):P.underlying t=some (.slice q.1)∧known P q.1=true∧q.2=P.cellsOf q.1:=by
 unfold slElem at h
 split at h
 ·rename_i e hu
  split at h
  ·rename_i hk; cases h; exact ⟨hu,hk,rfl⟩
  ·cases h
 ·cases h
theorem arElem_spec {t:TypeId} {q} (h:arElem P t=some q):P.underlying t=some (.array q.1 q.2.1)∧known P q.2.1=true∧q.2.2=P.cellsOf q.2.1:=by
 unfold arElem at h
 split at h
 ·rename_i n e hu
  split at h
  ·rename_i hk; cases h; exact ⟨hu,hk,rfl⟩
  ·cases h
 ·cases h

section
variable {C:Ctx} {Q:Exit→List AV→Store→Prop} {A:List AV} {ρ:Store}
end
end Go.Lg

namespace Go.Lg
open Go.RowKit
variable {P:Program}

def opG (P:Program) (L:List LoopV) (o:Oper) (K:AV→List LS→Store→Prop) (st:List LS) (A:List AV) (ρ:Store):Prop :=
 (∃ v ρ',aop P o (aev A) ρ v ρ'∧K v st ρ') ∨
 (∃ c f g args,o.op=.call c∧c.callee=.value f∧fnOf (aev A f) (c.args.toList.map (aev A))=some (g,args)∧callable P g=true∧DoesG P L g args st ρ K) ∨
 (∃ c f k e,o.op=.call c∧c.callee=.value f∧L[k]?=some e∧aev A f=.yld e.r∧YieldG P L k e (c.args.toList.map (aev A)) st ρ (fun b st' ρ'=>K (.sc (.bool b)) st' ρ'))

def runG (P:Program) (L:List LoopV) (ops:Array Oper):List Oper→(List LS→List AV→Store→Prop)→List LS→List AV→Store→Prop
 | [],K,st,A,ρ=>K st A ρ
 | o :: r,K,st,A,ρ=>match o.guard with
  | none=>opG P L o (fun v st' ρ'=>runG P L ops r K st' (putA A o.dst v) ρ') st A ρ
  | some (j,want)=>match gvalS ops A j want with
   | some b=>(b=true→opG P L o (fun v st' ρ'=>runG P L ops r K st' (putA A o.dst v) ρ') st A ρ)∧(b=false→runG P L ops r K st (putA A o.dst uA) ρ)
   | none=>False

section
variable {C:Ctx} {L:List LoopV} {Q:Exit→List LS→List AV→Store→Prop} {st:List LS} {A:List AV} {ρ:Store}

end

theorem SR.trim {w F I β ρ} (hs:SR w F I β ρ) (n:Nat) (hn:n≤ρ.length) (h:BelS n (ρ.take n)):SR w F I β (ρ.take n):=by
 have hlen:(ρ.take n).length=n:=by simp; omega
 have old:∀ (r:Nat) (R:Root),(ρ.take n)[r]?=some (some R)→r<n∧ρ[r]?=some (some R):=by
  intro r R h
  have h1:r<(ρ.take n).length:=(List.getElem?_eq_some_iff.1 h).1
  rw [hlen] at h1
  rw [List.getElem?_take_of_lt h1] at h
  exact ⟨h1,h⟩
 constructor
 ·intro r R l h1 h2; exact hs.real r R l (old r R h1).2 h2
 ·intro r R l h1 h2 i hi
  obtain ⟨h3,h4⟩:=old r R h1
  obtain ⟨b1,b2⟩:=hs.cells r R l h4 h2 i hi
  refine ⟨b1,fun j hj=>?_⟩
  obtain ⟨u,h5,h6⟩:=b2 j hj
  exact ⟨u,h5,by rw [hlen]; exact h6.bel (((h.get r R h1).1.get i).cells j)⟩
 ·intro r R h1; exact hs.phantom r R (old r R h1).2
 ·intro r s R S l m h1 h2; exact hs.inj r s R S l m (old r R h1).2 (old s S h2).2
 ·exact hs.ilt
 ·exact hs.flt
 ·intro r R l h1; exact hs.thaw r R l (old r R h1).2
 ·intro r R o h1 h2
  obtain ⟨h3,h4⟩:=old r R h1
  obtain ⟨e,l,x,h5,h6,h7⟩:=hs.obs r R o h4 h2
  exact ⟨e,l,x,h5,h6,by rw [hlen]; exact h7.bel (h2 ▸ (h.get r R h1).2)⟩

end Go.Lg
