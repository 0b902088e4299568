import Derived.Test.YtpdcajchppoocaaLl3
set_option linter.unusedVariables false
set_option linter.unusedSimpArgs false
namespace Go.Lg
variable {P:Program}

def noβ:Nat→Option Loc:=fun _=>none

theorem Rel.pure {c I I' N β a v} (h:Rel c I N β a v) (hp:Pure a) (hI:∀ b,I b→I' b):Rel c I' 0 noβ a v:=by
 induction h with
 | any v=>exact .any v
 | sc v=>exact .sc v
 | ptr r i j l hr hl=>cases hp
 | sl r o n cap l hr hl hn h4=>cases hp
 | slz r o a hr=>cases hp
 | isl sz L b off cap vs hb hn hz h1 h2 ih =>
  cases hp with
  | isl _ _ h=>exact .isl sz L b off cap vs (hI _ hb) hn hz h1 (fun i hi j hj=>ih i hi j hj (h i hi j hj))
 | islz sz a=>exact .islz sz a
 | iptr cs b off vs hb h1 h2 ih =>
  cases hp with
  | iptr _ h=>exact .iptr cs b off vs (hI _ hb) h1 (fun j hj=>ih j hj (h j hj))
 | agg cs vs hn h1 ih =>
  cases hp with
  | agg _ h=>exact .agg cs vs hn (fun j hj=>ih j hj (h j hj))
 | tup cs vs hn h1 ih =>
  cases hp with
  | tup _ h=>exact .tup cs vs hn (fun j hj=>ih j hj (h j hj))
 | clo fn fs cs us vs hm hu hn hv ih1 ih2 =>
  cases hp with
  | clo _ _ _ h h'=>exact .clo fn fs cs us vs hm (fun j hj=>ih1 j hj (h j hj)) hn (fun j hj=>ih2 j hj (h' j hj))
 | yld r l hr hl=>cases hp
 | sub r i j sz n cap l hr hl hn=>cases hp
 | subz r i j sz a hr=>cases hp
 | mp r l hr hl=>cases hp
 | sit r l hr hl=>cases hp
 | ifc t a v h ih =>
  cases hp with
  | ifc _ _ h=>exact .ifc t a v (ih h)

inductive SnapP (D:Nat→Prop) (ρ:Store):AV→AV→Prop
 | pure (a:AV) (h:Pure a):SnapP D ρ a a
 | nil (sz:Nat):SnapP D ρ (.sc (.slice none 0 0)) (.isl sz [])
 | sl (r o n:Nat) (R:Root) (L:List AV) (hR:ρ[r]?=some (some R)) (ho:o+n≤R.els.length) (hL:L.length=n)
   (hz:∀ i,i<n→(L.getD i .any).cells.length=R.sz) (h:∀ i,i<n→∀ j,j<R.sz→SnapP D ρ ((R.els.getD (o+i) .any).cells.getD j .any) ((L.getD i .any).cells.getD j .any)) (hm:D r):SnapP D ρ (.sl r o n) (.isl R.sz L)
 | ptr (r i j:Nat) (R:Root) (cs:List AV) (hR:ρ[r]?=some (some R)) (hi:i<R.els.length) (hl:cs.length+j≤R.sz)
   (h:∀ k,k<cs.length→SnapP D ρ ((R.els.getD i .any).cells.getD (j+k) .any) (cs.getD k .any)) (hm:D r):SnapP D ρ (.ptr r i j) (.iptr cs)
 | sub (r i j sz n:Nat) (R:Root) (L:List AV) (hR:ρ[r]?=some (some R)) (hi:i<R.els.length) (hl:j+n*sz≤R.sz) (hL:L.length=n)
   (hz:∀ k,k<n→(L.getD k .any).cells.length=sz) (h:∀ k,k<n→∀ q,q<sz→SnapP D ρ ((R.els.getD i .any).cells.getD (j+k*sz+q) .any) ((L.getD k .any).cells.getD q .any)) (hm:D r):SnapP D ρ (.sub r i j sz n) (.isl sz L)
 | agg (c c':List AV) (hl:c'.length=c.length) (h:∀ j,j<c.length→SnapP D ρ (c.getD j .any) (c'.getD j .any)):SnapP D ρ (.agg c) (.agg c')
 | tup (c c':List AV) (hl:c'.length=c.length) (h:∀ j,j<c.length→SnapP D ρ (c.getD j .any) (c'.getD j .any)):SnapP D ρ (.tup c) (.tup c')
 | clo (fn:Fn) (fs fs' cs cs':List AV) (hl:fs'.length=fs.length) (h:∀ j,j<fs.length→SnapP D ρ (fs.getD j .any) (fs'.getD j .any)) (hl':cs'.length=cs.length) (h':∀ j,j<cs.length→SnapP D ρ (cs.getD j .any) (cs'.getD j .any)):SnapP D ρ (.clo fn fs cs) (.clo fn fs' cs')
 | ifc (t:TypeId) (a a':AV) (h:SnapP D ρ a a'):SnapP D ρ (.ifc t a) (.ifc t a')
abbrev SnapN (m:Nat) (ρ:Store):=SnapP (fun r=>m≤r) ρ
abbrev Snap:=SnapN 0

def withLiveP (D:Nat→Prop) (I:Nat→Prop) (β:Nat→Option Loc) (ρ:Store) (b:Nat):Prop:=I b∨∃ (r:Nat) (R:Root) (l:Loc),D r∧ρ[r]?=some (some R)∧β r=some l∧l.b=b
def withLive (I:Nat→Prop) (β:Nat→Option Loc) (ρ:Store) (b:Nat):Prop:=I b∨∃ (r:Nat) (R:Root) (l:Loc),ρ[r]?=some (some R)∧β r=some l∧l.b=b

theorem SnapP.rel {D ρ a a' w F I β v} (h:SnapP D ρ a a') (hs:SR w F I β ρ) (hv:Rel (cellf w) I ρ.length β a v):Rel (cellf w) (withLiveP D I β ρ) 0 noβ a' v:=by
 induction h generalizing v with
 | pure a hp=>exact hv.pure hp (fun b hb=>.inl hb)
 | nil sz=>cases hv; exact .islz sz none
 | sl r o n R L hR ho hL hz h hm ih =>
  rcases hv.sl_inv with ⟨cap,l,hr,hl,hn,hc,rfl⟩ | ⟨rfl,aa,rfl,_⟩
  ·have esz:=(hs.real r R l hR hl).1
   have key:∀ i,i<n→∀ j,j<R.sz→∃ u,cellf w l.b (l.off+o*l.sz+i*R.sz+j)=some u∧Rel (cellf w) (withLiveP D I β ρ) 0 noβ ((L.getD i .any).cells.getD j .any) u:=by
    intro i hi j hj
    obtain ⟨_,hcc⟩:=hs.cells r R l hR hl (o+i) (by omega)
    obtain ⟨u,h1,h2⟩:=hcc j hj
    refine ⟨u,?_,ih i hi j hj h2⟩
    rw [esz,show l.off+o*R.sz+i*R.sz+j=l.off+(o+i)*R.sz+j by rw [Nat.add_mul]; omega]; exact h1
   subst hL
   refine .isl R.sz L l.b _ cap (fun i j=>(cellf w l.b (l.off+o*l.sz+i*R.sz+j)).getD undef) (.inr ⟨r,R,l,hm,hR,hl,rfl⟩) hn hz (fun i hi j hj=>?_) (fun i hi j hj=>?_)
   ·obtain ⟨u,h1,_⟩:=key i hi j hj
    simp [h1]
   ·obtain ⟨u,h1,h2⟩:=key i hi j hj
    simpa [h1] using h2
  ·have:L=[]:=List.eq_nil_of_length_eq_zero hL
   subst this; exact .islz _ _
 | ptr r i j R cs hR hi hl h hm ih =>
  generalize hx:AV.ptr r i j=x at hv
  cases hv <;> cases hx
  rename_i l hr hl'
  have esz:=(hs.real r R l hR hl').1
  obtain ⟨_,hcc⟩:=hs.cells r R l hR hl' i hi
  have key:∀ k,k<cs.length→∃ u,cellf w l.b (l.off+i*l.sz+j+k)=some u∧Rel (cellf w) (withLiveP D I β ρ) 0 noβ (cs.getD k .any) u:=by
   intro k hk
   obtain ⟨u,h1,h2⟩:=hcc (j+k) (by omega)
   exact ⟨u,by rw [esz,Nat.add_assoc]; exact h1,ih k hk h2⟩
  refine .iptr cs l.b _ (fun k=>(cellf w l.b (l.off+i*l.sz+j+k)).getD undef) (.inr ⟨r,R,l,hm,hR,hl',rfl⟩) (fun k hk=>?_) (fun k hk=>?_)
  ·obtain ⟨u,h1,_⟩:=key k hk
   simp [h1]
  ·obtain ⟨u,h1,h2⟩:=key k hk
   simpa [h1] using h2
 | sub r i j sz n R L hR hi hl hL hz h hm ih =>
  generalize hx:AV.sub r i j sz n=x at hv
  cases hv <;> cases hx
  ·rename_i cap l hr hl' hn
   have esz:=(hs.real r R l hR hl').1
   obtain ⟨_,hcc⟩:=hs.cells r R l hR hl' i hi
   have key:∀ k,k<n→∀ q,q<sz→∃ u,cellf w l.b (l.off+i*l.sz+j+k*sz+q)=some u∧Rel (cellf w) (withLiveP D I β ρ) 0 noβ ((L.getD k .any).cells.getD q .any) u:=by
    intro k hk q hq
    have hb:k*sz+sz≤n*sz:=by have:=Nat.mul_le_mul_right sz (show k+1≤n by omega); rwa [Nat.add_mul,Nat.one_mul] at this
    obtain ⟨u,h1,h2⟩:=hcc (j+k*sz+q) (by omega)
    refine ⟨u,?_,ih k hk q hq h2⟩
    rw [esz,show l.off+i*R.sz+j+k*sz+q=l.off+i*R.sz+(j+k*sz+q) by omega]; exact h1
   subst hL
   refine .isl sz L l.b _ cap (fun k q=>(cellf w l.b (l.off+i*l.sz+j+k*sz+q)).getD undef) (.inr ⟨r,R,l,hm,hR,hl',rfl⟩) hn hz (fun k hk q hq=>?_) (fun k hk q hq=>?_)
   ·obtain ⟨u,h1,_⟩:=key k hk q hq
    simp [h1]
   ·obtain ⟨u,h1,h2⟩:=key k hk q hq
    simpa [h1] using h2
  ·have:L=[]:=List.eq_nil_of_length_eq_zero hL
   subst this; exact .islz _ _
 | agg c c' hl h ih =>
  cases hv with
  | agg _ vs hn hv=>exact .agg _ _ (by omega) (fun j hj=>ih j (by omega) (hv j (by omega)))
 | tup c c' hl h ih =>
  cases hv with
  | tup _ vs hn hv=>exact .tup _ _ (by omega) (fun j hj=>ih j (by omega) (hv j (by omega)))
 | clo fn fs fs' cs cs' hl h hl' h' ih ih' =>
  cases hv with
  | clo _ _ _ us vs hm hu hn hv=>exact .clo fn fs' cs' us vs (by omega) (fun j hj=>ih j (by omega) (hu j (by omega))) (by omega) (fun j hj=>ih' j (by omega) (hv j (by omega)))
 | ifc t a a' h ih =>
  cases hv with
  | ifc _ _ v hv=>exact .ifc t a' v (ih hv)
theorem Snap.rel {ρ a a' w F I β v} (h:SnapN 0 ρ a a') (hs:SR w F I β ρ) (hv:Rel (cellf w) I ρ.length β a v):Rel (cellf w) (withLive I β ρ) 0 noβ a' v :=
 (SnapP.rel h hs hv).mono (fun _ _ _ _ h=>h) (fun _ _ h=>h) (fun b hb=>hb.imp id fun ⟨r,R,l,_,h⟩=>⟨r,R,l,h⟩) (Nat.le_refl _) (fun _ _=>rfl)

def Does (P:Program) (f:FuncId) (fr:Bool) (args:List AV) (res:AV):Prop :=
 ∀ (w:World) (I:Nat→Prop) (vals:Array Value),(∀ b,I b→b<w.heap.size)→RelL (cellf w) I 0 noβ args vals.toList →
  Calls P f vals w fun e w'=>∃ u I',e=.returned u∧Keeps (fun b=>b<w.heap.size) w w'∧(∀ b,I' b→b<w'.heap.size) ∧
   (∀ b,I' b→(fr=false∧I b)∨w.heap.size≤b)∧Rel (cellf w') I' 0 noβ res u

def SnapL (ρ:Store) (l l':List AV):Prop:=l'.length=l.length∧∀ j,j<l.length→Snap ρ (l.getD j .any) (l'.getD j .any)

def callable (P:Program) (f:FuncId):Bool:=match P.funcs[f]? with
 | some fn=>fn.name != "runtime.NumGoroutine" && fn.body.isSome
 | none=>false

theorem run_callFunc {f:FuncId} (h:callable P f=true) (args:Array Value) (w:World):(callFunc f args).run P w=.ok (.enter f args) w:=by
 unfold callable at h
 cases hf:P.funcs[f]? with
 | none=>simp [hf] at h
 | some fn =>
  simp [hf] at h
  simp [callFunc,hf,h.1]
  obtain ⟨b,hb⟩:=Option.isSome_iff_exists.1 h.2
  simp [hb]

def DoesS (P:Program) (f:FuncId) (args:List AV) (ρ:Store) (R:AV→Store→Prop):Prop :=
 ∀ (w:World) (F I:Nat→Prop) (β:Nat→Option Loc) (vals:Array Value),SR w F I β ρ→RelL (cellf w) I ρ.length β args vals.toList →
  Calls P f vals w fun e w'=>∃ u v ρ' I' β',e=.returned u∧R v ρ'∧Keeps F w w'∧Grow w w' I I' ρ.length ρ'.length β β'∧SR w' F I' β' ρ'∧Rel (cellf w') I' ρ'.length β' v u

theorem callMethod_run {t:TypeId} {name:String} {g:FuncId} (hm:methodOf P t name=some g) (hcb:callable P g=true) (x:Value) (args:Array Value) (w:World):(callMethod (.iface t x) name args).run P w=.ok (.enter g (#[x] ++ args)) w:=by
 have e1:=methodOf_run hm x w (P.types.size+99)
 have e4:(program).run P w=.ok P w:=rfl
 simp only [callMethod,Sem.run_bind,e4,Result.andThen_ok]
 rw [show P.types.size+Made.depth=P.types.size+99+1 from rfl,e1]
 simp only [Result.andThen_ok]
 exact run_callFunc hcb _ w
theorem inv_run {w F I β a A ρ} (hs:FRel w F I β a A ρ) {o:Oper} {c:Call} {r:Operand} {name:String} {t:TypeId} {y:AV} {g:FuncId} (ho:o.op=.call c) (hc:c.callee=.invoke r name) (hr:aev A r=.ifc t y) (hm:methodOf P t name=some g) (hcb:callable P g=true) :
  ∃ vals,(execOp a.eval o).run P w=.ok (.enter g vals) w∧RelL (cellf w) I ρ.length β (y :: c.args.toList.map (aev A)) vals.toList:=by
 have hl:=RelL.of_map A a.eval hs.eval c.args.toList
 have hv:=hs.eval r
 rw [hr] at hv
 generalize hav:a.eval r=z at hv
 cases hv with
 | ifc _ _ x hx =>
  refine ⟨#[x] ++ c.args.map a.eval,?_,by simpa using RelL.mk hx hl⟩
  have e0:(resolve a.eval c o.type).run P w=.ok { target:=.fn (.method name) #[],args:=#[a.eval r] ++ c.args.map a.eval } w:=by
   unfold resolve; rw [hc]; rfl
  have e2:(#[Value.iface t x] ++ c.args.map a.eval).extract 1 (#[Value.iface t x] ++ c.args.map a.eval).size=c.args.map a.eval:=by
   apply Array.ext'
   simp [List.take_of_length_le]
  have e3:(#[Value.iface t x] ++ c.args.map a.eval)[0]?=some (Value.iface t x):=by
   rw [Array.getElem?_append_left (by simp)]; rfl
  unfold execOp
  simp only [ho,Sem.run_bind,e0,Result.andThen_ok,invoke,hav,e3,e2]
  exact callMethod_run hm hcb x _ w
theorem meth_run {w F I β a A ρ} (hs:FRel w F I β a A ρ) {o:Oper} {c:Call} {f:Operand} {name:String} {t:TypeId} {y:AV} {fs cs:List AV} {g:FuncId} (ho:o.op=.call c) (hc:c.callee=.value f) (hf:aev A f=.clo (.method name) (.ifc t y :: fs) cs) (hm:methodOf P t name=some g) (hcb:callable P g=true) :
  ∃ vals,(execOp a.eval o).run P w=.ok (.enter g vals) w∧RelL (cellf w) I ρ.length β (y :: (fs ++ c.args.toList.map (aev A))) vals.toList:=by
 have hl:=RelL.of_map A a.eval hs.eval c.args.toList
 have hv:=hs.eval f
 rw [hf] at hv
 generalize hav:a.eval f=z at hv
 cases hv with
 | clo _ _ _ us vs hm' hu hn hv =>
  have hus:RelL (cellf w) I ρ.length β (.ifc t y :: fs) us.toList:=⟨by simpa using hm',fun j hj=>by
   have:=hu j hj
   have hj':j<us.size:=by omega
   simpa [Array.getD,List.getD,hj'] using this⟩
  obtain ⟨u0,ur,e,h0,hr⟩:=hus.cons
  cases h0 with
  | ifc _ _ x hx =>
   have hus':us=#[Value.iface t x] ++ ur.toArray:=Array.ext' (by rw [e]; simp)
   subst hus'
   refine ⟨#[x] ++ (ur.toArray ++ c.args.map a.eval),?_,by simpa using RelL.mk hx (hr.append hl)⟩
   have e0:(resolve a.eval c o.type).run P w=.ok { target:=.fn (.method name) vs,args:=#[Value.iface t x] ++ ur.toArray ++ c.args.map a.eval } w:=by
    unfold resolve; rw [hc]; simp [hav,Deferred.ofValue]
   have e2:(#[Value.iface t x] ++ ur.toArray ++ c.args.map a.eval).extract 1 (#[Value.iface t x] ++ ur.toArray ++ c.args.map a.eval).size=ur.toArray ++ c.args.map a.eval:=by
    apply Array.ext'
    simp [List.take_of_length_le]
   have e3:(#[Value.iface t x] ++ ur.toArray ++ c.args.map a.eval)[0]?=some (Value.iface t x):=by
    rw [Array.getElem?_append_left (by simp),Array.getElem?_append_left (by simp)]; rfl
   unfold execOp
   simp only [ho,Sem.run_bind,e0,Result.andThen_ok,invoke,e3,e2]
   exact callMethod_run hm hcb x _ w

def aDoesB (P:Program) (f:FuncId) (args:List AV) (ρ:Store) (v:AV):Prop :=
 ((∃ args',SnapL ρ args args'∧Does P f true args' v)∨((∀ j,j<args.length→Pure (args.getD j .any))∧Does P f false args v))∨DoesS P f args ρ (fun x s=>x=v∧s=ρ)
def aDoes (P:Program) (f:FuncId) (args:List AV) (ρ:Store) (v:AV):Prop:=callable P f=true∧aDoesB P f args ρ v

def aCall (P:Program) (c:Call) (ev:Operand→AV) (ρ:Store) (v:AV) (ρ':Store):Prop :=
 match c.callee with
 | .builtin .append=>(match c.args.toList,c.argTypes.toList with
  | [s,x],[t,t']=>(∃ e',P.underlying t'=some (.slice e'))∧aAppend P t (ev s) (ev x) ρ v ρ'
  | _,_=>False)
 | .builtin .copy=>(match c.args.toList,c.argTypes.toList with
  | [d,s],[t,_]=>aCopy P t (ev d) (ev s) ρ v ρ'
  | _,_=>False)
 | .builtin .clear=>(match c.args.toList,c.argTypes.toList with
  | [x],[t]=>aClear P t (ev x) ρ v ρ'
  | _,_=>False)
 | .builtin b=>aBuiltin P b c.argTypes (c.args.toList.map ev) v∧ρ'=ρ
 | .value f=>(match ev f with
  | .sc (.func (.func g) fs cs)=>fs=#[]∧cs=#[]∧aDoes P g (c.args.toList.map ev) ρ v∧ρ'=ρ
  | .clo (.func g) fs cs=>aDoes P g (fs ++ c.args.toList.map ev ++ cs) ρ v∧ρ'=ρ
  | .clo (.method name) (.ifc t y :: fs) _=>∃ g,methodOf P t name=some g∧aDoes P g (y :: (fs ++ c.args.toList.map ev)) ρ v∧ρ'=ρ
  | _=>False)
 | .invoke r name=>(match ev r with
  | .ifc t y=>∃ g,methodOf P t name=some g∧aDoes P g (y :: c.args.toList.map ev) ρ v∧ρ'=ρ
  | _=>False)

def aop (P:Program) (o:Oper) (ev:Operand→AV) (ρ:Store) (v:AV) (ρ':Store):Prop :=
 match o.op with
 | .alloc t=>aAlloc P t ρ v ρ'
 | .box t x=>aBox P t (ev x) ρ v ρ'
 | .store t p x=>aStore P t (ev p) (ev x) ρ v ρ'
 | .makeSlice t l c=>aMakeSlice P t (ev l) (ev c) ρ v ρ'
 | .buildSlice t len parts=>aLit P t len (parts.toList.map fun p=>(p.1,ev p.2)) ρ v ρ'
 | .call c=>aCall P c ev ρ v ρ'
 | .makeMap t r=>aMakeMap P (r.map ev) ρ v ρ' t
 | .mapUpdate t m k x=>aMapUpdate P t (ev m) (ev k) (ev x) ρ v ρ'
 | .insert t m k x=>aMapUpdate P t (ev m) (ev k) (ev x) ρ v ρ'
 | .lookup t x i ok=>aLookup P t (ev x) (ev i) ok ρ v∧ρ'=ρ
 | .makeInterface t x=>aMakeIfc P t (ev x) v∧ρ'=ρ
 | .typeAssert x xt as ok=>aTypeAssert P (ev x) xt as ok v∧ρ'=ρ
 | _=>aPure P o ev ρ v∧ρ'=ρ

def StepW (P:Program) (o:Oper) (a:Act) (w:World) (F I:Nat→Prop) (β:Nat→Option Loc) (ρ:Store) (v:AV) (ρ':Store):Prop :=
 ∀ (K:Act→World→Prop) (Q:Exit→Act→World→Prop),(∀ u w' I' β',Keeps F w w'→Grow w w' I I' ρ.length ρ'.length β β'→SR w' F I' β' ρ'→Rel (cellf w') I' ρ'.length β' v u→K (a.put o.dst u) w')→∀ (r:Option Nat) (n:Nat),o.wpIn (fz r) n P a w K Q

theorem Step.walk {o a w F I β ρ v ρ'} (h:Step P o a w F I β ρ v ρ'):StepW P o a w F I β ρ v ρ':=by
 intro K Q hK r n
 obtain ⟨u,w',I',β',hr,hk,hg,hs,hv⟩:=h
 rcases hr with hr | ⟨hr,rfl⟩
 ·exact Oper.wpIn_value hr (hK u w' I' β' hk hg hs hv)
 ·exact Oper.wpIn_skip hr (hK _ w' I' β' hk hg hs hv)

theorem RelL.mono {c c' I I' N N' β β' l vs} (h:RelL c I N β l vs) (f:∀ a v,Rel c I N β a v→Rel c' I' N' β' a v):RelL c' I' N' β' l vs:=⟨h.1,fun j hj=>f _ _ (h.2 j hj)⟩

theorem cellf_keeps {F:Nat→Prop} {w w':World} (h:Keeps F w w') {b:Nat} (hb:F b) (k:Nat):cellf w' b k=cellf w b k :=
 World.cell?_of_block (w:=w) (a:=⟨b,k,none⟩) (h.block b hb)

theorem aDoesW_wp {o:Oper} {f:FuncId} {args:List AV} {vals:Array Value} {w F I β a A ρ v ρ'} (hs:FRel w F I β a A ρ) (hr:(execOp a.eval o).run P w=.ok (.enter f vals) w)
  (hv:RelL (cellf w) I ρ.length β args vals.toList) (h:DoesS P f args ρ (fun x s=>x=v∧s=ρ')):StepW P o a w F I β ρ v ρ':=by
 intro K Q hK r n
 refine Oper.wpIn_enter hr (h w F I β vals hs.sr hv) ?_
 rintro e w' ⟨u,v',s',I',β',rfl,⟨rfl,rfl⟩,hk,hg,hsr,hrel⟩
 exact ⟨u,rfl,hK u w' I' β' hk hg hsr hrel⟩
theorem aDoes_wp {o:Oper} {f:FuncId} {args:List AV} {vals:Array Value} {w F I β a A ρ v} (hs:FRel w F I β a A ρ) (hr:(execOp a.eval o).run P w=.ok (.enter f vals) w)
  (hv:RelL (cellf w) I ρ.length β args vals.toList) (h:aDoesB P f args ρ v) :
  StepW P o a w F I β ρ v ρ:=by
 intro K Q hK r n
 rcases h with h | h
 rotate_left
 ·refine Oper.wpIn_enter hr (h w F I β vals hs.sr hv) ?_
  rintro e w' ⟨u,v',ρ',I',β',rfl,⟨rfl,rfl⟩,hk,hg,hsr,hrel⟩
  exact ⟨u,rfl,hK u w' I' β' hk hg hsr hrel⟩
 -- what the callee sees
 have hcall:∃ I0 fr args',(∀ b,I0 b→b<w.heap.size)∧RelL (cellf w) I0 0 noβ args' vals.toList∧Does P f fr args' v∧(fr=false→I0=I):=by
  rcases h with ⟨args',⟨hl,hsn⟩,hc⟩ | ⟨hp,hc⟩
  ·refine ⟨withLive I β ρ,true,args',fun b hb=>?_,⟨by rw [hv.1]; exact hl.symm,fun j hj=>Snap.rel (hsn j (by omega)) hs.sr (hv.2 j (by omega))⟩,hc,by simp⟩
   rcases hb with hb | ⟨r,R,l,h1,h2,rfl⟩
   ·exact hs.sr.ilt b hb
   ·exact (hs.sr.real r R l h1 h2).2.1
  ·exact ⟨I,false,args,hs.sr.ilt,⟨hv.1,fun j hj=>(hv.2 j hj).pure (hp j hj) (fun _ h=>h)⟩,hc,fun _=>rfl⟩
 obtain ⟨I0,fr,args',hI0,hrel,hc,hfr⟩:=hcall
 have:=hc w I0 vals hI0 hrel
 refine Oper.wpIn_enter hr this ?_
 rintro e w' ⟨u,I',rfl,hk,hI',hfresh,hres⟩
 refine ⟨u,rfl,?_⟩
 have hkF:Keeps F w w':=⟨hk.os,hk.tape,hk.output,hk.size,fun b hb=>hk.block b (hs.sr.flt b hb)⟩
 have hold:∀ b k,b<w.heap.size→cellf w' b k=cellf w b k:=fun b k hb=>cellf_keeps hk hb k
 have hg:Grow w w' I (fun b=>I b∨(I' b∧w.heap.size≤b)) ρ.length ρ.length β β :=
  ⟨fun b k x _ h=>by rw [hold b k (cellf_lt h)]; exact h,fun b k h=>by rw [hold b k (cellf_isSome_lt h)]; exact h,fun b hb=>.inl hb,Nat.le_refl _,fun _ _=>rfl,fun b h=>h.imp id (fun h=>h.2),hk.size⟩
 refine hK u w' (fun b=>I b∨(I' b∧w.heap.size≤b)) β hkF hg ?_ ?_
 ·constructor
  ·intro r R l h1 h2
   obtain ⟨a1,a2,a3,a4⟩:=hs.sr.real r R l h1 h2
   exact ⟨a1,Nat.lt_of_lt_of_le a2 hk.size,fun h=>h.elim a3 (fun h=>by omega),a4⟩
  ·intro r R l h1 h2 i hi
   obtain ⟨b1,b2⟩:=hs.sr.cells r R l h1 h2 i hi
   refine ⟨b1,fun j hj=>?_⟩
   obtain ⟨x,h3,h4⟩:=b2 j hj
   exact ⟨x,by rw [hold _ _ (hs.sr.real r R l h1 h2).2.1]; exact h3,hg.rel h4⟩
  ·exact hs.sr.phantom
  ·exact hs.sr.inj
  ·intro b hb
   rcases hb with hb | ⟨hb,_⟩
   ·exact Nat.lt_of_lt_of_le (hs.sr.ilt b hb) hk.size
   ·exact hI' b hb
  ·exact fun b hb=>Nat.lt_of_lt_of_le (hs.sr.flt b hb) hk.size
  ·intro r R l h1 h2 k
   rw [World.frozen?_of_block (w:=w) (a:=⟨l.b,k,none⟩) (hk.block l.b (hs.sr.real r R l h1 h2).2.1)]
   exact hs.sr.thaw r R l h1 h2 k
  ·intro r R o' h1 h2
   obtain ⟨e,l,x,h3,h4,h5⟩:=hs.sr.obs r R o' h1 h2
   exact ⟨e,l,x,h3,by rw [hk.block l.b (hs.sr.real r R l h1 h3).2.1]; exact h4,h5.mono fun a v=>hg.rel⟩
 ·refine hres.mono (fun _ _ _ _ h=>h) (fun _ _ h=>h) (fun b hb=>?_) (Nat.zero_le _) (fun r hr=>absurd hr (Nat.not_lt_zero _))
  rcases hfresh b hb with ⟨h1,h2⟩ | h1
  ·rw [hfr h1] at h2; exact .inl h2
  ·exact .inr ⟨hb,h1⟩
end Go.Lg

namespace Go.Lg
open Go.RowKit
variable {P:Program}
def aLitR (P:Program) (t:TypeId) (len:Nat) (parts:List (Nat × AV)) (ρ:Store) (v:AV) (ρ':Store):Prop :=
 ∃ e z,P.underlying t=some (.slice e)∧known P e=true∧zeroA P e=some z∧len*P.cellsOf e≤16777216∧parts.map (·.1)=List.range len∧(parts.all fun p=>p.2.ok)=true ∧
  (parts.all fun p=>p.2.cells.length == P.cellsOf e)=true∧(0<P.cellsOf e∧v=.sl ρ.length 0 len∧ρ'=ρ ++ [some ⟨P.cellsOf e,parts.map (·.2),none⟩])
theorem aLitR_step {o:Oper} {t:TypeId} {len:Nat} {parts:Array (Nat × Operand)} {w F I β a A ρ v ρ'} (ho:o.op=.buildSlice t len parts) (hs:FRel w F I β a A ρ)
  (h:aLitR P t len (parts.toList.map fun p=>(p.1,aev A p.2)) ρ v ρ'):Step P o a w F I β ρ v ρ':=by
 obtain ⟨e,z,hu,hk,hz,hsz,hfst,hok,hcl,hcase⟩:=h
 obtain ⟨zv,hzrun,rfl⟩:=run_zero hz w
 generalize hS:P.cellsOf e=S at *
 have hp:RelP (cellf w) I ρ.length β (parts.toList.map fun p=>(p.1,aev A p.2)) (parts.toList.map fun p=>(p.1,a.eval p.2)):=by
  refine ⟨by simp,?_⟩
  have:=RelL.of_map A a.eval hs.eval (parts.toList.map (·.2))
  simpa [List.map_map,Function.comp_def] using this
 have hlen:(parts.toList.map fun p=>(p.1,aev A p.2)).length=len:=by have:=congrArg List.length hfst; simpa using this
 generalize hxs:(parts.toList.map fun p=>(p.1,aev A p.2))=xs at *
 have hcl':∀ p ∈ xs,p.2.cells.length=S:=by simpa using hcl
 have hseq:=fillA_seq S xs 0 [] (by simp) hcl' (by rw [hfst,hlen,List.range_eq_range'])
 simp only [List.nil_append,hlen] at hseq
 have hrun:∃ C,(Instr.buildSlice t len (parts.map fun p=>(p.1,a.eval p.2))).run P w=.ok (.slice (some ⟨w.heap.size,0,none⟩) len len) (w.alloc (.cells C e)) ∧
   RelL (cellf w) I ρ.length β (xs.flatMap fun p=>p.2.cells) C.toList:=by
  have h24:¬ (16777216<len*S):=by omega
  by_cases h0:len*S=0
  ·obtain ⟨C,h1,h2⟩:=fill_run (c:=cellf w) (I:=I) (N:=ρ.length) (β:=β) (cv:=#[]) hseq (by simpa using hok) hp (by rw [h0]; exact .mk_nil)
   refine ⟨C,?_,h2⟩
   have e1:(parts.map fun p=>(p.1,a.eval p.2)).toList=parts.toList.map fun p=>(p.1,a.eval p.2):=by simp
   simp [Instr.buildSlice,run_underlying hu,run_sizeOf' hk,hS,h0,h1,newRow,map_range0]
  ·have hrel:=RelL.any (c:=cellf w) (I:=I) (N:=ρ.length) (β:=β) ((Array.range (len*S)).map (fun k=>zv.cells[k % zv.cells.size]!)).toList
   have hl:((Array.range (len*S)).map (fun k=>zv.cells[k % zv.cells.size]!)).toList.length=len*S:=by simp
   rw [hl] at hrel
   obtain ⟨C,h1,h2⟩:=fill_run (c:=cellf w) (I:=I) (N:=ρ.length) (β:=β) hseq (by simpa using hok) hp hrel
   refine ⟨C,?_,h2⟩
   have e1:(parts.map fun p=>(p.1,a.eval p.2)).toList=parts.toList.map fun p=>(p.1,a.eval p.2):=by simp
   simp [Instr.buildSlice,run_underlying hu,run_sizeOf' hk,hS,h24,h0,hzrun,h1,newRow]
 obtain ⟨C,hrun,hC⟩:=hrun
 have hexec:(execOp a.eval o).run P w=.ok (.value (.slice (some ⟨w.heap.size,0,none⟩) len len)) (w.alloc (.cells C e)):=by
  unfold execOp
  simp only [ho]
  show ((Instr.buildSlice t len (parts.map fun p=>(p.1,a.eval p.2))) >>= fun r=>pure (Next.value r)).run P w=_
  rw [Sem.run_bind,hrun]; rfl
 obtain ⟨ys,hys⟩:∃ ys:List AV,ys=xs.map (fun p=>p.2):=⟨_,rfl⟩
 have hcl4:∀ x ∈ ys,x.cells.length=S:=fun x hx=>by
  rw [hys] at hx
  obtain ⟨p,hp,rfl⟩:=List.mem_map.1 hx
  exact hcl' p hp
 have hflat:∀ i,i<ys.length→∀ j,j<S→∃ u,C[i*S+j]?=some u∧Rel (cellf w) I ρ.length β ((ys.getD i .any).cells.getD j .any) u:=by
  intro i hi j hj
  have e1:(xs.flatMap fun p=>p.2.cells)=ys.flatMap AV.cells:=by simp [hys,List.flatMap_map]
  rw [e1] at hC
  have hcl2:∀ x ∈ ys,x.cells.length=S:=hcl4
  have hfl:(ys.flatMap AV.cells).length=ys.length*S:=by
   rw [List.length_flatMap]
   have:ys.map (fun x=>x.cells.length)=List.replicate ys.length S:=by
    apply List.eq_replicate_iff.2
    exact ⟨by simp,fun b hb=>by obtain ⟨x,hx,rfl⟩:=List.mem_map.1 hb; exact hcl2 x hx⟩
   rw [this]; simp
  have hlt:i*S+j<(ys.flatMap AV.cells).length:=by
   rw [hfl]
   have:(i+1)*S≤ys.length*S:=Nat.mul_le_mul_right _ hi
   rw [Nat.add_mul] at this; omega
  obtain ⟨u,hu1,hu2⟩:=hC.get hlt
  rw [flat_get S _ hcl2 i hi j hj] at hu2
  exact ⟨u,by simpa using hu1,hu2⟩
 have hcl3:∀ i,i<ys.length→(ys.getD i .any).cells.length=S:=fun i hi=>by
  have:ys.getD i .any=ys[i]:=by unfold List.getD; rw [List.getElem?_eq_getElem hi]; rfl
  rw [this]; exact hcl4 _ (List.getElem_mem _)
 obtain ⟨h0,rfl,rfl⟩:=hcase
 have hl2:ys.length=len:=by rw [hys]; simpa using hlen
 rw [← hys]
 have hnew:=hs.sr.newRoot C e S ys (fun i hi=>⟨hcl3 i hi,fun j hj=>by
  obtain ⟨u,h1,h2⟩:=hflat i hi j hj
  exact ⟨u,h1,h2⟩⟩)
 have hg:=Grow.alloc_root w (.cells C e) I ρ.length β (some ⟨w.heap.size,0,S⟩)
 have hlen1:(ρ ++ [some (⟨S,ys,none⟩:Root)]).length=ρ.length+1:=by simp
 refine ⟨_,_,I,_,.inl hexec,Keeps.alloc w _ hs.sr.flt,by rw [hlen1]; exact hg,hnew,?_⟩
 rw [hlen1]
 have:=Rel.sl (c:=cellf (w.alloc (.cells C e))) (I:=I) (N:=ρ.length+1) (β:=bext β ρ.length (some ⟨w.heap.size,0,S⟩)) ρ.length 0 len len ⟨w.heap.size,0,S⟩ (by omega) bext_new (by omega)
  (fun k hk=>by
   simp only [Nat.zero_mul,Nat.add_zero,Nat.zero_add]
   have hS0:0<S:=h0
   have h1:k / S<ys.length:=by rw [hl2]; exact (Nat.div_lt_iff_lt_mul hS0).2 hk
   obtain ⟨u,h3,_⟩:=hflat (k / S) h1 (k % S) (Nat.mod_lt _ hS0)
   have h5:k / S*S+k % S=k:=by rw [Nat.mul_comm]; exact Nat.div_add_mod k S
   rw [h5] at h3
   rw [cellf_new,h3]; rfl)
 simpa using this
end Go.Lg
