import Derived.Test.YtpdcajchppoocaaLl2
set_option linter.unusedVariables false
set_option linter.unusedSimpArgs false
namespace Go.Lg
open Go.RowKit
variable {P:Program}

def aMakeIfc (P:Program) (t:TypeId) (x v:AV):Prop:=(match P.underlying t with
 | some (.interface _)=>False
 | some _=>True
 | none=>False)∧v=.ifc t x
theorem aMakeIfc_run {t x v} {w:World} {c I N β vx} (h:aMakeIfc P t x v) (hx:Rel c I N β x vx):∃ u,(Instr.makeInterface t vx).run P w=.ok u w∧Rel c I N β v u:=by
 obtain ⟨h,rfl⟩:=h
 refine ⟨.iface t vx,?_,.ifc t x vx hx⟩
 cases hu:P.underlying t with
 | none=>simp [hu] at h
 | some d =>
  unfold Instr.makeInterface
  rw [Sem.run_bind,run_underlying hu,Result.andThen_ok]
  cases d <;> first | rfl | (simp [hu] at h)

def aTypeAssert (P:Program) (x:AV) (xt as:TypeId) (ok:Bool) (v:AV):Prop :=
 ∃ d,P.underlying as=some d ∧
 match x with
 | .ifc t a=>(match d with
  | .interface want=>∃ i,P.info? t=some i∧(match Instr.missingMethod want i.methods with
   | none=>v=if ok then .tup [.ifc t a,.sc (.bool true)] else .ifc t a
   | some _=>ok=true∧∃ z,zeroA P as=some z∧v=.tup [z,.sc (.bool false)])
  | _=>if t=as then v=(if ok then .tup [a,.sc (.bool true)] else a) else ok=true∧∃ z,zeroA P as=some z∧v=.tup [z,.sc (.bool false)])
 | .sc .nilIface=>ok=true∧∃ z,zeroA P as=some z∧v=.tup [z,.sc (.bool false)]
 | _=>False

theorem rel_pair {c I N β a b u v} (h:Rel c I N β a u) (k:Rel c I N β b v):Rel c I N β (.tup [a,b]) (.tuple #[u,v]):=by
 refine .tup _ _ (by simp) (fun j hj=>?_)
 cases j with
 | zero=>exact h
 | succ j=>cases j with
  | zero=>exact k
  | succ j=>exact absurd hj (by simp)

theorem aTypeAssert_run {x xt as ok v} {w:World} {c I N β vx} (h:aTypeAssert P x xt as ok v) (hx:Rel c I N β x vx):∃ u,(Instr.typeAssert vx xt as ok).run P w=.ok u w∧Rel c I N β v u:=by
 obtain ⟨d,hd,h⟩:=h
 have fails:∀ (static dynamic:Option TypeId) (miss:String),(ok=true∧∃ z,zeroA P as=some z∧v=.tup [z,.sc (.bool false)]) →
   ∃ u,(do if ok then pure (.tuple #[← zeroValue as,.bool false]) else runtimePanic (.typeAssertion static dynamic as miss):Sem Value).run P w=.ok u w∧Rel c I N β v u:=by
  rintro s dy miss ⟨rfl,z,hz,rfl⟩
  obtain ⟨zv,hzr,rfl⟩:=run_zero hz w
  exact ⟨.tuple #[zv,.bool false],by simp [hzr],rel_pair (ofV_rel _ _ _ _ zv) (.sc _)⟩
 have holds:∀ {a y},Rel c I N β a y→v=(if ok then .tup [a,.sc (.bool true)] else a) →
   ∃ u,(pure (if ok then .tuple #[y,.bool true] else y):Sem Value).run P w=.ok u w∧Rel c I N β v u:=by
  rintro a y ha rfl
  refine ⟨_,rfl,?_⟩
  cases ok
  ·exact ha
  ·exact rel_pair ha (.sc _)
 unfold Instr.typeAssert
 rw [Sem.run_bind,run_underlying hd,Result.andThen_ok]
 split at h
 ·rename_i t a
  cases hx with
  | ifc _ _ y hy =>
   split at h
   ·rename_i want
    obtain ⟨i,hi,h⟩:=h
    have ht:(typeInfo t).run P w=.ok i w:=by simp [typeInfo,hi]
    simp only [Sem.run_bind,ht,Result.andThen_ok]
    cases hm:Instr.missingMethod want i.methods with
    | none =>
     simp only [hm] at h ⊢
     exact holds (.ifc t a y hy) h
    | some m =>
     simp only [hm] at h ⊢
     exact fails _ _ _ h
   ·rename_i hni
    by_cases e:t=as
    ·rw [if_pos e] at h
     have:=holds hy h
     obtain ⟨u,h1,h2⟩:=this
     refine ⟨u,?_,h2⟩
     split
     ·rename_i q; cases q
     ·exact absurd rfl (hni _)
     ·rename_i q; cases q
     ·rename_i q; cases q; rw [if_pos e]; exact h1
     ·rename_i q0 q1 q2 q3; first | exact (q0 _ _ rfl).elim | exact (q1 _ _ rfl).elim | exact (q2 _ _ rfl).elim | exact (q3 _ _ rfl).elim
    ·rw [if_neg e] at h
     obtain ⟨u,h1,h2⟩:=fails (some xt) (some t) "" h
     refine ⟨u,?_,h2⟩
     split
     ·rename_i q; cases q
     ·exact absurd rfl (hni _)
     ·rename_i q; cases q
     ·rename_i q; cases q; rw [if_neg e]; exact h1
     ·rename_i q0 q1 q2 q3; first | exact (q0 _ _ rfl).elim | exact (q1 _ _ rfl).elim | exact (q2 _ _ rfl).elim | exact (q3 _ _ rfl).elim
 ·cases hx
  cases d with
  | interface want=>exact fails none none "" h
  | _=>exact fails (some xt) none "" h
 ·exact h.elim
def aMakeMap (P:Program) (r:Option AV) (ρ:Store) (v:AV) (ρ':Store) (t:TypeId):Prop :=
 (match r with
  | none=>True
  | some (.sc (.int _ _))=>∃ k e,P.underlying t=some (.map k e)
  | _=>False)∧v=.mp ρ.length∧ρ'=ρ ++ [some ⟨0,[],some (.map [] 0)⟩]
theorem aMakeMap_step {o:Oper} {t:TypeId} {r:Option Operand} {w F I β a A ρ v ρ'} (ho:o.op=.makeMap t r) (hs:FRel w F I β a A ρ) (h:aMakeMap P (r.map (aev A)) ρ v ρ' t):Step P o a w F I β ρ v ρ':=by
 obtain ⟨hr,rfl,rfl⟩:=h
 have hx:ObRel (Rel (cellf w) I ρ.length β) (.map [] 0) (.map #[] 0):=.map [] #[] 0 rfl (fun i e x h=>by simp at h)
 refine ⟨.map (some w.heap.size),w.alloc (.map #[] 0),I,bext β ρ.length (some ⟨w.heap.size,0,0⟩),.inl ?_,Keeps.alloc w _ hs.sr.flt,?_,hs.sr.newOb _ _ 0 hx,?_⟩
 ·unfold execOp
  have hrun:(Instr.makeMap t (r.map a.eval)).run P w=.ok (.map (some w.heap.size)) (w.alloc (.map #[] 0)):=by
   unfold Instr.makeMap
   cases r with
   | none=>rfl
   | some x =>
    have hx:=hs.eval x
    simp only [Option.map_some] at hr ⊢
    generalize hav:aev A x=y at hr hx
    generalize hvv:a.eval x=z at hx
    split at hr
    ·cases ‹some y=none›
    ·rename_i K n hy; cases hy
     cases hx
     obtain ⟨k,e,hu⟩:=hr
     simp [run_underlying hu,asInt,asIntOf]
    ·exact hr.elim
  simp [ho,hrun]
 ·simpa using Grow.alloc_root w (.map #[] 0) I ρ.length β _
 ·have:=Rel.mp (c:=cellf (w.alloc (.map #[] 0))) (I:=I) (N:=ρ.length+1) (β:=bext β ρ.length (some ⟨w.heap.size,0,0⟩)) ρ.length ⟨w.heap.size,0,0⟩ (by omega) bext_new
  simpa using this

def aPut (es:List (Value × Nat × AV)) (n:Nat) (k:Value) (hit:Option Nat) (x:AV):List (Value × Nat × AV) × Nat:=match hit with
 | some j=>(match es[j]? with
  | some e=>es.set j (k,e.2.1,x)
  | none=>es,n)
 | none=>(es ++ [(k,n,x)],n+1)
def aMapUpdate (P:Program) (t:TypeId) (m k x:AV) (ρ:Store) (v:AV) (ρ':Store):Prop :=
 ∃ r R es n kt et dk kv hit,m=.mp r∧ρ[r]?=some (some R)∧R.ob=some (.map es n)∧P.underlying t=some (.map kt et)∧P.underlying kt=some dk∧toV k=some kv∧(Instr.checkKey false 10000 kt kv).pv P=some () ∧
  findE P kt kv (es.map (·.1)) 0=some hit∧(∀ j,hit=some j→∃ e,es[j]?=some e∧Instr.sameBits 10000 e.1 kv=true)∧v=.any∧ρ'=ρ.set r (some ⟨R.sz,[],some (.map (aPut es n kv hit x).1 (aPut es n kv hit x).2)⟩)

theorem putObj_eq (w:World) (r:Nat) (o:Obj):{ w with heap:=w.heap.setIfInBounds r o }=w.putObj r o:=rfl

def putMap (en:Array MapEntry) (n:Nat) (k:Value) (vx:Value):Option Nat→Obj
 | some j=>.map (en.modify j fun e=>{ e with key:=k,val:=vx }) n
 | none=>.map (en.push { key:=k,val:=vx,born:=n }) (n+1)
theorem aPut_rel {c I N β} {es:List (Value × Nat × AV)} {n:Nat} {k:Value} {hit:Option Nat} {x:AV} {vx:Value} {en:Array MapEntry} (hx:Rel c I N β x vx) (h1:en.toList.map (·.key)=es.map (·.1)) (h2:en.toList.map (·.born)=es.map (·.2.1)) (h3:en.toList.length=es.length)
  (h4:∀ (i:Nat) e y,en.toList[i]?=some e→es[i]?=some y→Rel c I N β y.2.2 e.val) (hj:∀ j,hit=some j→j<es.length) :
  ObRel (Rel c I N β) (.map (aPut es n k hit x).1 (aPut es n k hit x).2) (putMap en n k vx hit):=by
 have pair:∀ {l:List MapEntry} {m:List (Value × Nat × AV)},l.map (·.key)=m.map (·.1)→l.map (·.born)=m.map (·.2.1)→l.map (fun e=>(e.key,e.born))=m.map (fun e=>(e.1,e.2.1)):=by
  intro l
  induction l with
  | nil=>intro m a b; cases m with
   | nil=>rfl
   | cons y m=>simp at a
  | cons e l ih=>intro m a b; cases m with
   | nil=>simp at a
   | cons y m=>simp at a b; simp [a.1,b.1,ih a.2 b.2]
 have hsz:en.size=es.length:=by simpa using h3
 have key:∀ i,i<es.length→∀ (e:MapEntry) (y:Value × Nat × AV),en.toList[i]?=some e→es[i]?=some y→e.key=y.1∧e.born=y.2.1:=by
  intro i hi e y a b
  have q1:=congrArg (fun l=>l[i]?) h1
  have q2:=congrArg (fun l=>l[i]?) h2
  simp only [List.getElem?_map,a,b,Option.map_some,Option.some.injEq] at q1 q2
  exact ⟨q1,q2⟩
 cases hit with
 | none =>
  refine .map _ _ _ (pair (by simp [h1,aPut]) (by simp [h2,aPut])) (fun i e y a b=>?_)
  simp only [aPut] at b
  simp only [Array.toList_push] at a
  rcases getElem?_snoc a with ⟨c1,c2⟩ | ⟨c1,c2⟩
  ·rw [List.getElem?_append_left (by omega)] at b; exact h4 i e y c2 b
  ·subst c2
   rw [List.getElem?_append_right (by omega),show i - es.length=0 by omega] at b
   simp at b; subst b; exact hx
 | some j =>
  have hj':=hj j rfl
  have hjs:j<en.size:=by omega
  obtain ⟨ej,hej⟩:∃ e,es[j]?=some e:=⟨_,List.getElem?_eq_getElem hj'⟩
  obtain ⟨E,hE⟩:∃ E:MapEntry,E={ key:=k,val:=vx,born:=(en[j]'hjs).born }:=⟨_,rfl⟩
  have hm:(en.modify j fun e=>{ e with key:=k,val:=vx }).toList=en.toList.set j E:=by
   apply List.ext_getElem?
   intro i
   rw [Array.getElem?_toList,Array.getElem?_modify]
   by_cases e:j=i
   ·subst e; rw [if_pos rfl,List.getElem?_set_self (by simpa using hjs),Array.getElem?_eq_getElem hjs,hE]; rfl
   ·rw [if_neg e,List.getElem?_set_ne e]; simp
  have get:∀ i e,(en.toList.set j E)[i]?=some e→(i=j∧e=E)∨(i≠j∧en.toList[i]?=some e):=by
   intro i e h
   by_cases q:j=i
   ·subst q; simp [hjs] at h; exact .inl ⟨rfl,h.symm⟩
   ·rw [List.getElem?_set_ne q] at h; exact .inr ⟨fun h=>q h.symm,h⟩
  have get2:∀ i y,(es.set j (k,ej.2.1,x))[i]?=some y→(i=j∧y=(k,ej.2.1,x))∨(i≠j∧es[i]?=some y):=by
   intro i e h
   by_cases q:j=i
   ·subst q; simp [hj'] at h; exact .inl ⟨rfl,h.symm⟩
   ·rw [List.getElem?_set_ne q] at h; exact .inr ⟨fun h=>q h.symm,h⟩
  have ea:(aPut es n k (some j) x)=(es.set j (k,ej.2.1,x),n):=by simp only [aPut,hej]
  rw [ea]
  refine .map _ _ _ ?_ (fun i e y a b=>?_)
  ·rw [hm]
   apply List.ext_getElem?
   intro i
   rw [List.getElem?_map,List.getElem?_map]
   by_cases hi:i<es.length
   ·obtain ⟨e,he⟩:∃ e,(en.toList.set j E)[i]?=some e:=⟨_,List.getElem?_eq_getElem (by rw [List.length_set]; omega)⟩
    obtain ⟨y,hy⟩:∃ y,(es.set j (k,ej.2.1,x))[i]?=some y:=⟨_,List.getElem?_eq_getElem (by rw [List.length_set]; omega)⟩
    rw [he,hy]
    simp only [Option.map_some]
    rcases get i e he with ⟨rfl,rfl⟩ | ⟨q,he⟩
    ·rcases get2 _ y hy with ⟨_,rfl⟩ | ⟨q',_⟩
     ·have:=(key i hi (en[i]'hjs) ej (by simp [hjs]) hej).2
      simp [hE,this]
     ·exact absurd rfl q'
    ·rcases get2 i y hy with ⟨q',_⟩ | ⟨_,hy⟩
     ·exact absurd q' q
     ·have:=key i hi e y he hy
      simp [this.1,this.2]
   ·rw [List.getElem?_eq_none (by simp; omega),List.getElem?_eq_none (by simp; omega)]; rfl
  ·rw [hm] at a
   rcases get i e a with ⟨rfl,rfl⟩ | ⟨q,he⟩
   ·rcases get2 _ y b with ⟨_,rfl⟩ | ⟨q',_⟩
    ·rw [hE]; exact hx
    ·exact absurd rfl q'
   ·rcases get2 i y b with ⟨q',_⟩ | ⟨_,hy⟩
    ·exact absurd q' q
    ·exact h4 i e y he hy

theorem aMapUpdate_step {o:Oper} {t:TypeId} {m k x:Operand} {w F I β a A ρ v ρ'} (ho:o.op=.mapUpdate t m k x∨o.op=.insert t m k x) (hs:FRel w F I β a A ρ) (h:aMapUpdate P t (aev A m) (aev A k) (aev A x) ρ v ρ'):Step P o a w F I β ρ v ρ':=by
 obtain ⟨r,R,es,n,kt,et,dk,kv,hit,hm,hR,hob,hu,hd,hk,hc,hf,hsame,rfl,rfl⟩:=h
 have hvm:=hs.eval m
 have hvk:=hs.eval k
 have hvx:=hs.eval x
 have:=toV_spec hk hvk
 generalize hek:a.eval k=vk at this hvk
 subst this
 rw [hm] at hvm
 generalize hvm':a.eval m=vm at hvm
 cases hvm with
 | mp _ l hr hl =>
  obtain ⟨_,l',y,hl',hh,hobr⟩:=hs.sr.obs r R _ hR hob
  rw [hl] at hl'; cases hl'
  obtain ⟨en,rfl,h1,h2,h3,h4⟩:=keys_of (en:=#[]) hobr
  have hfr:=findE_run (P:=P) hd w (en:=en.toList) (by rw [h1]; exact hf)
  have hjl:∀ j,hit=some j→j<es.length:=fun j e=>by subst e; have:=(findE_lt hf).2; simpa using this
  have hx':=aPut_rel (n:=n) (k:=vk) (hit:=hit) hvx h1 h2 h3 h4 hjl
  obtain ⟨q1,q2,q3⟩:=hs.sr.setOb hR hl hob _ _ hx'
  refine ⟨undef,_,I,β,.inr ⟨?_,rfl⟩,q1,by simpa using q2,q3,.any _⟩
  have hg:(getObj l.b).run P w=.ok (.map en n) w:=by simp [getObj,Sem.run,hh]
  have hset:∀ y,(setObj l.b y).run P w=.ok () (w.putObj l.b y):=fun y=>by simp [setObj,Sem.run,hh,putObj_eq]
  have hrun:(Instr.mapUpdate t (.map (some l.b)) vk (a.eval x)).run P w=.ok () (w.putObj l.b (putMap en n vk (a.eval x) hit)):=by
   unfold Instr.mapUpdate
   rw [Sem.run_bind,run_underlying hu,Result.andThen_ok]
   simp only []
   rw [Sem.run_bind,hg,Result.andThen_ok]
   simp only []
   rw [Sem.run_bind,run_of_pv hc w,Result.andThen_ok,Sem.run_bind,hfr,Result.andThen_ok]
   cases hit with
   | none=>simp only [Option.map_none]; exact hset _
   | some j =>
    simp only [Option.map_some]
    obtain ⟨e,he,hsb⟩:=hsame j rfl
    have hj:=hjl j rfl
    have hjs:j<en.size:=by have:en.size=es.length:=(by simpa using h3); omega
    have hkey:((en[j]?).map (·.key)).getD vk=e.1:=by
     have q:=congrArg (fun l=>l[j]?) h1
     simp only [List.getElem?_map,he,Option.map_some] at q
     rw [← Array.getElem?_toList,q]; rfl
    have hst:(Instr.keyThatStays (((en[j]?).map (·.key)).getD vk) vk).run P w=.ok vk w:=by
     rw [hkey]; unfold Instr.keyThatStays; rw [if_pos hsb]; rfl
    rw [Sem.run_bind,hst,Result.andThen_ok]
    exact hset _
  unfold execOp
  rcases ho with ho | ho <;> simp [ho,hvm',hek,hrun]
def aCopy (P:Program) (t:TypeId) (d s:AV) (ρ:Store) (v:AV) (ρ':Store):Prop :=
 ∃ e n L,P.underlying t=some (.slice e)∧known P e=true∧lenA d=some n∧elemsOf (P.cellsOf e) ρ s=some L∧L.all AV.ok=true∧dstA (P.cellsOf e) ρ d (L.take n)=some ρ'∧v=.sc (.int .i64 (min L.length n:Nat))
def aClear (P:Program) (t:TypeId) (x:AV) (ρ:Store) (v:AV) (ρ':Store):Prop :=
 v=.tup []∧match x with
 | .sc (.map none)=>known P t=true∧ρ'=ρ
 | .mp r=>known P t=true∧∃ R es n,ρ[r]?=some (some R)∧R.ob=some (.map es n)∧ρ'=ρ.set r (some ⟨R.sz,[],some (.map [] n)⟩)
 | x=>∃ e n z,P.underlying t=some (.slice e)∧known P e=true∧lenA x=some n∧zeroA P e=some z∧z.ok=true∧z.cells.length=P.cellsOf e∧dstA (P.cellsOf e) ρ x (List.replicate n z)=some ρ'

theorem builtin_exec {o:Oper} {c:Call} {b:Builtin} {a:Act} {w w':World} {u:Value} {s:Sem Value} (ho:o.op=.call c) (hc:c.callee=.builtin b)
  (hb:∀ cs,builtin b c.argTypes o.type cs (c.args.map a.eval)=(do pure (.value (← s)))) (h:s.run P w=.ok u w'):(execOp a.eval o).run P w=.ok (.value u) w':=by
 obtain ⟨cs0,e0⟩:∃ cs0,resolve a.eval c o.type=pure { target:=.builtin b c.argTypes o.type cs0,args:=c.args.map a.eval }:=⟨_,by unfold resolve; rw [hc]⟩
 unfold execOp
 simp [ho,e0,invoke,hb,h]

theorem aCopy_step {o:Oper} {c:Call} {t t':TypeId} {d s:Operand} {w F I β a A ρ v ρ'} (ho:o.op=.call c) (hc:c.callee=.builtin .copy) (ha:c.args.toList=[d,s]) (ht:c.argTypes.toList=[t,t'])
  (hs:FRel w F I β a A ρ) (h:aCopy P t (aev A d) (aev A s) ρ v ρ'):Step P o a w F I β ρ v ρ':=by
 obtain ⟨e,n,L,hu,hk,hn,hL,hok,hd,rfl⟩:=h
 have ha':c.args=#[d,s]:=Array.ext' ha
 have ht':c.argTypes=#[t,t']:=Array.ext' ht
 obtain ⟨dn,dcap,hvd,hd0⟩:=lenA_spec hn (hs.eval d)
 obtain ⟨news,f1,f2,⟨sa,scap,hvs⟩,f3,f4⟩:=firstCells_spec (P:=P) hL hs.sr (hs.eval s)
 have hones:=ones_of f1 hok f3 f4
 -- the first ones of them
 have hmin:(L.take n).length=min L.length n:=by simp; omega
 have t1:∀ i,i<(L.take n).length→(L.take n).getD i .any=L.getD i .any:=fun i hi=>getD_take _ _ _ (by omega)
 have hS:(news.take ((L.take n).length*P.cellsOf e)).length=(L.take n).length*P.cellsOf e:=by
  have:(L.take n).length*P.cellsOf e≤L.length*P.cellsOf e:=Nat.mul_le_mul_right _ (by omega)
  rw [List.length_take]; omega
 have hcell:∀ i,i<(L.take n).length→∀ j,j<P.cellsOf e→i*P.cellsOf e+j<(L.take n).length*P.cellsOf e:=fun i hi j hj=>by
  have:=Nat.mul_le_mul_right (P.cellsOf e) (show i+1≤(L.take n).length by omega)
  rw [Nat.add_mul] at this; omega
 obtain ⟨da,dn',dcap',w',hvd',hle,hne,hrun,hsame,hkp,hg,hsr⟩:=dstA_spec (P:=P) (news:=news.take ((L.take n).length*P.cellsOf e)) hd hs.sr (hs.eval d)
  (fun y hy=>by
   obtain ⟨i,hi,rfl⟩:=List.getElem_of_mem (List.mem_of_mem_take hy)
   have:=f3 i hi
   simpa [List.getD,hi] using this)
  hS (fun u hu=>hones u (List.mem_of_mem_take hu))
  (fun i hi j hj=>by
   rw [t1 i hi]
   have h1:=f4 i (by omega) j hj
   have:(news.take ((L.take n).length*P.cellsOf e)).getD (i*P.cellsOf e+j) undef=news.getD (i*P.cellsOf e+j) undef:=by
    simp only [List.getD]; rw [List.getElem?_take_of_lt (hcell i hi j hj)]
   rw [this]; exact h1)
 rw [hvd] at hvd'; cases hvd'
 refine ⟨goInt (min L.length n:Nat),w',I,β,.inl ?_,hkp,hg,hsr,.sc _⟩
 refine builtin_exec (s:=Builtin.copy_ c.argTypes o.type (c.args.map a.eval)) ho hc (fun _=>rfl) ?_
 have hfc:(Builtin.firstCells (P.cellsOf e) (min L.length n) (a.eval s)).run P w=.ok (news.take ((L.take n).length*P.cellsOf e)).toArray w:=by
  rw [hvs]
  cases sa with
  | none =>
   have hL0:L.length=0:=by
    have:=hs.eval s
    rw [hvs] at this
    by_cases hz:L.length=0
    ·exact hz
    ·exfalso
     have hrel:=f2 w (fun _ _=>rfl)
     obtain ⟨aa,cc,q1,q2,q3⟩:=elemsOf_spec hL hs.sr (hs.eval s)
     rw [hvs] at q1; cases q1
     rcases q3 with ⟨_,q⟩ | ⟨b,off,q,_⟩ | q
     ·rw [q] at hz; exact hz rfl
     ·cases q
     ·rw [q] at hz; exact hz rfl
   have:news.take ((L.take n).length*P.cellsOf e)=[]:=List.eq_nil_of_length_eq_zero (by rw [hS,hmin,hL0]; simp)
   rw [this]; rfl
  | some addr =>
   refine run_firstCells_some (P:=P) w _ _ addr _ scap _ (by rw [hS,hmin]) (fun j y hj=>?_)
   have hj':j<(news.take ((L.take n).length*P.cellsOf e)).length:=(List.getElem?_eq_some_iff.1 hj).1
   rw [List.getElem?_take_of_lt (by omega)] at hj
   have hjn:j<news.length:=(List.getElem?_eq_some_iff.1 hj).1
   obtain ⟨aa,cc,q1,q2,q3⟩:=elemsOf_spec hL hs.sr (hs.eval s)
   rw [hvs] at q1; cases q1
   rcases q3 with ⟨q,_⟩ | ⟨b,off,q,q4⟩ | q
   ·cases q
   ·cases q
    have hpos:0<P.cellsOf e:=Nat.pos_of_ne_zero (fun h0=>by rw [h0,Nat.mul_zero] at f1; omega)
    have k1:j / P.cellsOf e<L.length:=(Nat.div_lt_iff_lt_mul hpos).2 (by omega)
    have hw2:=f2 w (fun _ _=>rfl)
    rw [hvs] at hw2
    -- the cell is the one that was read
    have hread:∀ (cs:List Value),cs.length=L.length*P.cellsOf e→(∀ k,k<cs.length→w.cell? ⟨b,off+k,none⟩=cs[k]?)→(Builtin.firstCells (P.cellsOf e) L.length (.slice (some ⟨b,off,none⟩) L.length scap)).run P w=.ok cs.toArray w:=fun cs hl hc =>
     run_firstCells_some (P:=P) w _ _ _ _ scap cs hl (fun k u hk=>by
      have hk':=(List.getElem?_eq_some_iff.1 hk).1
      rw [add_none,hc k hk']; exact hk)
    obtain ⟨cs,g1,g2,_⟩:=read_cells q4
    have g3:∀ k,k<cs.length→w.cell? ⟨b,off+k,none⟩=cs[k]?:=fun k hk=>by
     have:=g2 k (by omega)
     have e1:cs.getD k undef=cs[k]:=by simp [List.getD,hk]
     rw [List.getElem?_eq_getElem hk,← e1]; exact this
    have:=hread cs g1 g3
    rw [hw2] at this
    have hcs:news=cs:=by
     have h9:Result.ok news.toArray w=Result.ok cs.toArray w:=this
     injection h9 with h9 _
     have:=congrArg Array.toList h9; simpa using this
    subst hcs
    rw [add_none,g3 j hjn]; exact hj
   ·rw [q] at f1; simp at f1; rw [f1] at hjn; simp at hjn
 unfold Builtin.copy_
 rw [ha',ht']
 simp only [List.map_toArray,List.map_cons,List.map_nil,List.getElem?_toArray,List.getElem?_cons_zero,List.getElem?_cons_succ]
 rw [Sem.run_bind,run_underlying hu,Result.andThen_ok]
 simp only [hvd]
 have hlen:(Builtin.lenOf (a.eval s)).run P w=.ok L.length w:=by rw [hvs]; rfl
 rw [Sem.run_bind,hlen,Result.andThen_ok,Sem.run_bind,run_sizeOf' hk,Result.andThen_ok,Sem.run_bind]
 rw [show Nat.min L.length n=min L.length n from rfl,hfc,Result.andThen_ok]
 cases dn with
 | none=>rw [hsame rfl]; rfl
 | some addr =>
  simp only [Sem.run_bind]
  rw [hrun addr rfl]
  rfl

theorem zeroCells_spec (z:Array Value) (n:Nat):(Builtin.zeroCells z n).toList.length=n*z.size∧∀ i,i<n→∀ j,j<z.size→(Builtin.zeroCells z n).toList.getD (i*z.size+j) undef=z.getD j undef:=by
 refine ⟨by simp [Builtin.zeroCells],fun i hi j hj=>?_⟩
 have hlt:i*z.size+j<n*z.size:=by
  have:=Nat.mul_le_mul_right z.size (show i+1≤n by omega)
  rw [Nat.add_mul] at this; omega
 have hm:(i*z.size+j) % z.size=j:=by rw [Nat.mul_comm,Nat.mul_add_mod]; exact Nat.mod_eq_of_lt hj
 simp [Builtin.zeroCells,List.getD,hlt,hm,hj,Array.getD]

theorem aClear_step {o:Oper} {c:Call} {t:TypeId} {x:Operand} {w F I β a A ρ v ρ'} (ho:o.op=.call c) (hc:c.callee=.builtin .clear) (ha:c.args.toList=[x]) (ht:c.argTypes.toList=[t])
  (hs:FRel w F I β a A ρ) (h:aClear P t (aev A x) ρ v ρ'):Step P o a w F I β ρ v ρ':=by
 have ha':c.args=#[x]:=Array.ext' ha
 have ht':c.argTypes=#[t]:=Array.ext' ht
 obtain ⟨rfl,h⟩:=h
 have hx:=hs.eval x
 have fin:∀ w',(Builtin.clear_ c.argTypes o.type (c.args.map a.eval)).run P w=.ok (.tuple #[]) w'→(execOp a.eval o).run P w=.ok (.value (.tuple #[])) w':=fun w' h=>builtin_exec (s:=Builtin.clear_ c.argTypes o.type (c.args.map a.eval)) ho hc (fun _=>rfl) h
 have out:∀ c I N β,Rel c I N β (.tup []) (.tuple #[]):=fun c I N β=>.tup _ _ rfl (fun j hj=>by simp at hj)
 have start:∀ {d:TypeDesc} {u:Value},P.underlying t=some d→a.eval x=u→(Builtin.clear_ c.argTypes o.type (c.args.map a.eval)).run P w=(do
   match d,u with
   | _,.map none | _,.slice none _ _ | _,.slice _ 0 _=>pure ()
   | _,.map (some r) =>
    let .map _ clock ← getObj r | stuck "clear: map expected"
    setObj r (.map #[] clock)
   | .slice elem,.slice (some a) n _ =>
    storeCells a (Builtin.zeroCells (← zeroValue elem).cells n).toList
   | _,_=>stuck "clear: map or slice expected"
   pure (.tuple #[]):Sem Value).run P w:=by
  intro d u hu hv
  unfold Builtin.clear_
  rw [ha',ht']
  simp only [List.map_toArray,List.map_cons,List.map_nil,List.getElem?_toArray,List.getElem?_cons_zero,hv]
  rw [Sem.run_bind,run_underlying hu,Result.andThen_ok]
  rfl
 split at h
 ·rename_i he
  obtain ⟨hk,rfl⟩:=h
  rw [he] at hx
  obtain ⟨d,hd⟩:=Option.isSome_iff_exists.1 hk
  generalize hv:a.eval x=u at hx
  cases hx
  exact ⟨_,w,I,β,.inl (fin _ (by rw [start hd hv]; rfl)),Keeps.refl _ _,Grow.refl _ _ _ _,hs.sr,out _ _ _ _⟩
 ·rename_i r he
  obtain ⟨hk,R,es,n,hR,hob,rfl⟩:=h
  rw [he] at hx
  obtain ⟨d,hd⟩:=Option.isSome_iff_exists.1 hk
  generalize hv:a.eval x=u at hx
  cases hx with
  | mp _ l hr hl =>
   obtain ⟨_,l',y,hl',hh,hobr⟩:=hs.sr.obs r R _ hR hob
   rw [hl] at hl'; cases hl'
   obtain ⟨en,rfl,h1,h2,h3,h4⟩:=keys_of (en:=#[]) hobr
   obtain ⟨q1,q2,q3⟩:=hs.sr.setOb hR hl hob (.map #[] n) (.map [] n) (.map [] #[] n rfl (fun i e x h=>by simp at h))
   refine ⟨_,_,I,β,.inl (fin _ ?_),q1,by simpa using q2,q3,out _ _ _ _⟩
   rw [start hd hv]
   have hg:(getObj l.b).run P w=.ok (.map en n) w:=by simp [getObj,Sem.run,hh]
   have hset:∀ y,(setObj l.b y).run P w=.ok () (w.putObj l.b y):=fun y=>by simp [setObj,Sem.run,hh,putObj_eq]
   cases d <;> simp [hg,hset]
 ·obtain ⟨e,n,z,hu,hk,hn,hz,hzo,hzl,hd⟩:=h
  obtain ⟨zv,hzr,rfl⟩:=run_zero hz w
  have hzc:=(ok_cells (ofV_rel (cellf w) I ρ.length β zv) hzo)
  have hzs:zv.cells.size=P.cellsOf e:=by have:=hzc.1.1; simp at this; omega
  obtain ⟨dn,dcap,hvd,hd0⟩:=lenA_spec hn hx
  obtain ⟨g1,g2⟩:=zeroCells_spec zv.cells n
  obtain ⟨da,dn',dcap',w',hvd',hle,hne,hrun,hsame,hkp,hg,hsr⟩:=dstA_spec (P:=P) (news:=(Builtin.zeroCells zv.cells n).toList) hd hs.sr hx
   (fun y hy=>by rw [List.eq_of_mem_replicate hy]; exact hzl) (by rw [g1,hzs,List.length_replicate])
   (fun u hu=>by
    obtain ⟨k,hk,rfl⟩:=List.getElem_of_mem hu
    have hpos:0<zv.cells.size:=Nat.pos_of_ne_zero (fun h0=>by rw [h0] at g1; omega)
    have k1:k / zv.cells.size<n:=(Nat.div_lt_iff_lt_mul hpos).2 (by omega)
    have k2:=Nat.mod_lt k hpos
    have:=g2 _ k1 _ k2
    rw [show k / zv.cells.size*zv.cells.size+k % zv.cells.size=k by rw [Nat.mul_comm,Nat.div_add_mod]] at this
    have e1:(Builtin.zeroCells zv.cells n).toList.getD k undef=(Builtin.zeroCells zv.cells n).toList[k]:=by rw [List.getD,List.getElem?_eq_getElem hk]; rfl
    rw [← e1,this]
    refine hzc.2 _ ?_
    simp [Array.getD,k2])
   (fun i hi j hj=>by
    simp at hi
    rw [← hzs] at hj ⊢
    rw [g2 i hi j hj]
    have:(List.replicate n (ofV zv)).getD i .any=ofV zv:=by simp [List.getD,hi]
    rw [this]
    have:=hzc.1.2 j (by rw [hzl,← hzs]; exact hj)
    simpa [List.getD,Array.getD,hj] using this)
  rw [hvd] at hvd'; cases hvd'
  refine ⟨_,w',I,β,.inl (fin _ ?_),hkp,hg,hsr,out _ _ _ _⟩
  rw [start hu hvd]
  by_cases hn0:n=0
  ·subst hn0
   have hw:w'=w:=by
    cases dn with
    | none=>exact hsame rfl
    | some b =>
     have:=hrun b rfl
     rw [show (Builtin.zeroCells zv.cells 0).toList=[] from List.eq_nil_of_length_eq_zero (by rw [g1,Nat.zero_mul])] at this
     have h9:Result.ok () w=Result.ok () w':=this
     injection h9 with _ h9; exact h9.symm
   subst hw
   cases dn <;> rfl
  ·cases dn with
   | none=>exact absurd (hd0 rfl) hn0
   | some b =>
    obtain ⟨m,rfl⟩:∃ m,n=m+1:=⟨n - 1,by omega⟩
    simp only [Sem.run_bind,hzr,Result.andThen_ok,hrun b rfl]
    rfl
end Go.Lg
