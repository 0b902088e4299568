import Derived.RangeFuncRecord
import Derived.RangeFuncNested
import Derived.Test.YtpdcajchppoocaaLk2
set_option linter.unusedVariables false
set_option linter.unusedSimpArgs false
namespace Go.Lg
open Go.RowKit
variable {P:Program}

theorem cellf_putObj {w:World} {l:Nat} {o o':Obj} (h:w.heap[l]?=some o) (ho:o.isCells=false) (ho':o'.isCells=false):cellf (w.putObj l o')=cellf w:=by
 funext b k
 unfold cellf World.cell?
 by_cases e:b=l
 ·subst e
  simp only [World.putObj_heap_same (Array.getElem?_eq_some_iff.1 h).1,h]
  cases o <;> cases o' <;> simp_all [Obj.isCells]
 ·simp only [World.putObj_heap_other e]
theorem frozen_putObj {w:World} {l:Nat} {o o':Obj} (h:w.heap[l]?=some o) (ho:o.isCells=false) (ho':o'.isCells=false) (a:Addr):(w.putObj l o').frozen? a=w.frozen? a:=by
 unfold World.frozen?
 by_cases e:a.block=l
 ·simp only [e,World.putObj_heap_same (Array.getElem?_eq_some_iff.1 h).1,h]
  cases o <;> cases o' <;> simp_all [Obj.isCells]
 ·simp only [World.putObj_heap_other e]
theorem Grow.putObj {w:World} {l:Nat} {o o':Obj} (h:w.heap[l]?=some o) (ho:o.isCells=false) (ho':o'.isCells=false) (I N β):Grow w (w.putObj l o') I I N N β β :=
 ⟨fun b k x _ hx=>by rw [cellf_putObj h ho ho']; exact hx,fun b k hx=>by rw [cellf_putObj h ho ho']; exact hx,fun _ h=>h,Nat.le_refl _,fun _ _=>rfl,fun _ h=>.inl h,by rw [World.putObj_size]; exact Nat.le_refl _⟩

theorem SR.setOb {w F I β ρ} (hs:SR w F I β ρ) {r:Nat} {R:Root} {l:Loc} {o:ObjA} (hR:ρ[r]?=some (some R)) (hl:β r=some l) (ho:R.ob=some o) (x':Obj) (o':ObjA) (hx:ObRel (Rel (cellf w) I ρ.length β) o' x') :
  Keeps F w (w.putObj l.b x')∧Grow w (w.putObj l.b x') I I ρ.length ρ.length β β∧SR (w.putObj l.b x') F I β (ρ.set r (some ⟨R.sz,[],some o'⟩)):=by
 obtain ⟨he,l',x,hl',hh,hob⟩:=hs.obs r R o hR ho
 rw [hl] at hl'; cases hl'
 obtain ⟨esz,hlt,hnI,hnF⟩:=hs.real r R l hR hl
 have nc:∀ {q:ObjA} {y:Obj},ObRel (Rel (cellf w) I ρ.length β) q y→y.isCells=false:=fun h=>by cases h <;> rfl
 have h1:=nc hob
 have h2:=nc hx
 have hc:=cellf_putObj hh h1 h2
 have hz:=frozen_putObj hh h1 h2
 have hrl:r<ρ.length:=(List.getElem?_eq_some_iff.1 hR).1
 have newget:∀ (s:Nat) (S:Root),(ρ.set r (some ⟨R.sz,[],some o'⟩))[s]?=some (some S)→(s=r∧S=⟨R.sz,[],some o'⟩)∨(s≠r∧ρ[s]?=some (some S)):=by
  intro s S h
  by_cases e:r=s
  ·subst e; simp [hrl] at h; exact .inl ⟨rfl,h.symm⟩
  ·rw [List.getElem?_set_ne e] at h; exact .inr ⟨fun h=>e h.symm,h⟩
 have live:∀ (s:Nat) (S:Root),(ρ.set r (some ⟨R.sz,[],some o'⟩))[s]?=some (some S)→∃ S',ρ[s]?=some (some S')∧S'.sz=S.sz:=by
  intro s S h
  rcases newget s S h with ⟨rfl,rfl⟩ | ⟨_,h2⟩
  ·exact ⟨R,hR,rfl⟩
  ·exact ⟨S,h2,rfl⟩
 refine ⟨⟨rfl,rfl,rfl,by rw [World.putObj_size]; exact Nat.le_refl _,fun b hb=>World.putObj_heap_other (show b≠l.b from fun e=>hnF (e ▸ hb))⟩,Grow.putObj hh h1 h2 _ _ _,?_⟩
 constructor
 ·intro s S m h hm
  obtain ⟨S',g1,g2⟩:=live s S h
  obtain ⟨a1,a2,a3,a4⟩:=hs.real s S' m g1 hm
  exact ⟨by rw [← g2]; exact a1,by rw [World.putObj_size]; exact a2,a3,a4⟩
 ·intro s S m h hm i hi
  simp only [List.length_set]
  rw [hc]
  rcases newget s S h with ⟨rfl,rfl⟩ | ⟨hne',g2⟩
  ·simp at hi
  ·exact hs.cells s S m g2 hm i hi
 ·intro s S h hm
  rcases newget s S h with ⟨rfl,rfl⟩ | ⟨hne',g2⟩
  ·rfl
  ·exact hs.phantom s S g2 hm
 ·intro s1 s2 S1 S2 m1 m2 g1 g2 hm1 hm2 e
  obtain ⟨S1',k1,_⟩:=live s1 S1 g1
  obtain ⟨S2',k2,_⟩:=live s2 S2 g2
  exact hs.inj s1 s2 S1' S2' m1 m2 k1 k2 hm1 hm2 e
 ·intro b hb; rw [World.putObj_size]; exact hs.ilt b hb
 ·intro b hb; rw [World.putObj_size]; exact hs.flt b hb
 ·intro s S m h hm q
  obtain ⟨S',g1,_⟩:=live s S h
  rw [hz]; exact hs.thaw s S' m g1 hm q
 ·intro s S q h hq
  simp only [List.length_set]
  rw [hc]
  rcases newget s S h with ⟨rfl,rfl⟩ | ⟨hne',g2⟩
  ·cases hq
   exact ⟨rfl,l,x',hl,World.putObj_heap_same hlt,hx⟩
  ·obtain ⟨e,m,y,h3,h4,h5⟩:=hs.obs s S q g2 hq
   exact ⟨e,m,y,h3,by rw [World.putObj_heap_other (show m.b≠l.b from fun c0=>hne' (hs.inj s r S R m l g2 hR h3 hl c0))]; exact h4,h5⟩

theorem pv_bind {α β:Type} (s:Sem α) (f:α→Sem β):(s >>= f).pv P=(s.pv P).bind fun a=>(f a).pv P:=by
 show (s.bind f).pv P=_
 induction s with
 | pure a=>rfl
 | program k ih=>exact ih P
 | mark m k ih=>exact ih
 | _=>rfl
@[simp] theorem pv_pure {α:Type} (a:α):(pure a:Sem α).pv P=some a:=rfl
theorem pv_underlying {t:TypeId} {d:TypeDesc} (h:P.underlying t=some d):(underlying t).pv P=some d:=by
 show (program >>= fun p=>(match p.underlying t with
  | some d=>pure d
  | none=>stuck "no such type":Sem TypeDesc)).pv P=_
 rw [pv_bind]
 show ((match P.underlying t with
  | some d=>pure d
  | none=>stuck "no such type":Sem TypeDesc)).pv P=_
 rw [h]; rfl

def findE (P:Program) (kt:TypeId) (k:Value):List Value→Nat→Option (Option Nat)
 | [],_=>some none
 | x :: xs,i=>match (Op.equal kt k x).pv P with
  | some true=>some (some i)
  | some false=>findE P kt k xs (i+1)
  | none=>none

theorem sameNow_equal {kt:TypeId} {d:TypeDesc} {k x:Value} {b:Bool} (hd:P.underlying kt=some d) (h:Instr.sameNow d k x=some b) {c:Bool} (hc:(Op.equal kt k x).pv P=some c):b=c:=by
 have e:Op.equal kt k x=Op.equalIn (9999+1) kt k x:=rfl
 rw [e] at hc
 unfold Op.equalIn at hc
 rw [pv_bind,pv_underlying hd] at hc
 unfold Instr.sameNow at h
 split at h
 ·rename_i K a K' b'
  split at h
  ·rename_i hk; subst hk; cases h
   simp only [Option.bind_some,if_true,pv_pure,Option.some.injEq] at hc
   exact hc
  ·cases h
 ·cases h; simp only [Option.bind_some,pv_pure,Option.some.injEq] at hc; exact hc
 ·cases h; simp only [Option.bind_some,pv_pure,Option.some.injEq] at hc; exact hc
 ·cases h

theorem findE_now {kt:TypeId} {d:TypeDesc} {k:Value} (hd:P.underlying kt=some d):∀ {en:List MapEntry} {i:Nat} {r:Option Nat} {q:Option (Nat × Value)},Instr.findNow d k en i=some q→findE P kt k (en.map (·.key)) i=some r →
  q=r.map fun j=>(j,(en.getD (j - i) default).val)
 | [],i,r,q,h1,h2=>by
  simp only [Instr.findNow,Option.some.injEq] at h1
  simp only [List.map_nil,findE,Option.some.injEq] at h2
  subst h1 h2; rfl
 | x :: en,i,r,q,h1,h2=>by
  unfold Instr.findNow at h1
  simp only [List.map_cons] at h2
  unfold findE at h2
  cases hs:Instr.sameNow d k x.key with
  | none=>simp [hs] at h1
  | some b =>
   cases he:(Op.equal kt k x.key).pv P with
   | none=>simp [he] at h2
   | some c =>
    have:=sameNow_equal hd hs he
    subst this
    cases b
    ·simp only [hs] at h1
     simp only [he] at h2
     have ih:=findE_now hd h1 h2
     rw [ih]
     cases r with
     | none=>rfl
     | some j =>
      have:i+1≤j:=findE_le h2
      simp only [Option.map_some]
      rw [show j - i=(j - (i+1))+1 by omega]; simp
    ·simp only [hs,Option.some.injEq] at h1
     simp only [he,Option.some.injEq] at h2
     subst h1 h2; simp
where findE_le {kt:TypeId} {k:Value}:∀ {l:List Value} {i j:Nat},findE P kt k l i=some (some j)→i≤j
 | [],i,j,h=>by simp [findE] at h
 | x :: l,i,j,h=>by
  unfold findE at h
  split at h
  ·simp at h; omega
  ·have:=findE_le h; omega
  ·cases h

theorem findE_lt {kt:TypeId} {k:Value}:∀ {l:List Value} {i j:Nat},findE P kt k l i=some (some j)→i≤j∧j<i+l.length
 | [],i,j,h=>by simp [findE] at h
 | x :: l,i,j,h=>by
  unfold findE at h
  split at h
  ·simp at h; simp; omega
  ·have:=findE_lt h; simp; omega
  ·cases h

theorem findE_asking {kt:TypeId} {k:Value} (w:World):∀ {en:List MapEntry} {i:Nat} {r:Option Nat},findE P kt k (en.map (·.key)) i=some r →
  (Instr.findAsking kt k en i).run P w=.ok (r.map fun j=>(j,(en.getD (j - i) default).val)) w
 | [],i,r,h=>by
  simp only [List.map_nil,findE,Option.some.injEq] at h
  subst h; rfl
 | x :: en,i,r,h=>by
  simp only [List.map_cons] at h
  unfold findE at h
  unfold Instr.findAsking
  cases he:(Op.equal kt k x.key).pv P with
  | none=>simp [he] at h
  | some c =>
   rw [Sem.run_bind,run_of_pv he w,Result.andThen_ok]
   cases c
   ·simp only [he] at h
    have ih:=findE_asking w h
    simp only [Bool.false_eq_true,if_false]
    rw [ih]
    cases r with
    | none=>rfl
    | some j =>
     have:=(findE_lt h).1
     simp only [Option.map_some]
     rw [show j - i=(j - (i+1))+1 by omega]; simp
   ·simp only [he,Option.some.injEq] at h
    subst h; simp

theorem findE_run {kt:TypeId} {d:TypeDesc} {k:Value} (hd:P.underlying kt=some d) (w:World) {en:List MapEntry} {r:Option Nat} (h:findE P kt k (en.map (·.key)) 0=some r) :
  (Instr.findKey kt k en).run P w=.ok (r.map fun j=>(j,(en.getD j default).val)) w:=by
 unfold Instr.findKey
 rw [Sem.run_bind,run_underlying hd,Result.andThen_ok]
 cases hn:Instr.findNow d k en 0 with
 | some q=>simp only []; rw [findE_now hd hn h]; simp
 | none=>simp only []; rw [findE_asking w h]; simp

def entA (ρ:Store):AV→Option (List (Value × Nat × AV))
 | .mp r=>match ρ[r]? with
  | some (some R)=>match R.ob with
   | some (.map es _)=>some es
   | _=>none
  | _=>none
 | .sc (.map none)=>some []
 | _=>none

def aLookup (P:Program) (t:TypeId) (x i:AV) (ok:Bool) (ρ:Store) (v:AV):Prop :=
 ∃ kt et dk k es hit res b,P.underlying t=some (.map kt et)∧P.underlying kt=some dk∧toV i=some k∧entA ρ x=some es∧(Instr.checkKey es.isEmpty 10000 kt k).pv P=some ()∧findE P kt k (es.map (·.1)) 0=some hit ∧
  (match hit with
   | some j=>∃ e,es[j]?=some e∧res=e.2.2∧b=true
   | none=>zeroA P et=some res∧b=false)∧v=if ok then .tup [res,.sc (.bool b)] else res

theorem keys_of {c I N β} {es:List (Value × Nat × AV)} {en:Array MapEntry} {n:Nat} {m:Obj} (h:ObRel (Rel c I N β) (.map es n) m):∃ en,m=.map en n∧en.toList.map (·.key)=es.map (·.1)∧en.toList.map (·.born)=es.map (·.2.1)∧en.toList.length=es.length ∧
  ∀ (i:Nat) e x,en.toList[i]?=some e→es[i]?=some x→Rel c I N β x.2.2 e.val:=by
 cases h with
 | map _ en _ hk hv =>
  refine ⟨en,rfl,?_,?_,?_,hv⟩
  ·have:=congrArg (List.map Prod.fst) hk; simpa [List.map_map,Function.comp_def] using this
  ·have:=congrArg (List.map Prod.snd) hk; simpa [List.map_map,Function.comp_def] using this
  ·have:=congrArg List.length hk; simpa using this

theorem entA_spec {w F I β ρ x vx es} (h:entA ρ x=some es) (hs:SR w F I β ρ) (hx:Rel (cellf w) I ρ.length β x vx) :
  (vx=.map none∧es=[])∨∃ r R l n en,x=.mp r∧ρ[r]?=some (some R)∧R.ob=some (.map es n)∧β r=some l∧vx=.map (some l.b)∧w.heap[l.b]?=some (.map en n) ∧
   en.toList.map (·.key)=es.map (·.1)∧en.toList.map (·.born)=es.map (·.2.1)∧en.toList.length=es.length∧∀ (i:Nat) e y,en.toList[i]?=some e→es[i]?=some y→Rel (cellf w) I ρ.length β y.2.2 e.val:=by
 unfold entA at h
 split at h
 ·rename_i r
  split at h
  ·rename_i R hR
   split at h
   ·rename_i es' n ho
    cases h
    cases hx with
    | mp _ l hr hl =>
     obtain ⟨_,l',m,hl',hh,hob⟩:=hs.obs r R _ hR ho
     rw [hl] at hl'; cases hl'
     obtain ⟨en,rfl,h1,h2,h3,h4⟩:=keys_of (en:=#[]) hob
     exact .inr ⟨r,R,l,n,en,rfl,hR,ho,hl,rfl,hh,h1,h2,h3,h4⟩
   ·cases h
  ·cases h
 ·cases h; cases hx; exact .inl ⟨rfl,rfl⟩
 ·cases h

theorem aLookup_run {t x i ok ρ v} {w F I β vx vi} (h:aLookup P t x i ok ρ v) (hs:SR w F I β ρ) (hx:Rel (cellf w) I ρ.length β x vx) (hi:Rel (cellf w) I ρ.length β i vi) :
  ∃ u,(Instr.lookup t vx vi ok).run P w=.ok u w∧Rel (cellf w) I ρ.length β v u:=by
 obtain ⟨kt,et,dk,k,es,hit,res,b,hu,hd,hk,he,hc,hf,hr,rfl⟩:=h
 have:=toV_spec hk hi; subst this
 -- what is found
 have found:∀ (en:Array MapEntry),en.toList.map (·.key)=es.map (·.1)→en.toList.length=es.length→(∀ (i:Nat) e y,en.toList[i]?=some e→es[i]?=some y→Rel (cellf w) I ρ.length β y.2.2 e.val) →
   ∃ u,(do
    Instr.checkKey en.isEmpty 10000 kt vi
    let (v,ok') ← match ← Instr.findKey kt vi en.toList with
     | some (_,v)=>pure (v,true)
     | none=>pure (← zeroValue et,false)
    pure (if ok then .tuple #[v,.bool ok'] else v):Sem Value).run P w=.ok u w∧Rel (cellf w) I ρ.length β (if ok then .tup [res,.sc (.bool b)] else res) u:=by
  intro en h1 h2 h3
  have hemp:en.isEmpty=es.isEmpty:=by
   rw [Bool.eq_iff_iff]
   have:en.toList.length=en.size:=by simp
   rw [Array.isEmpty_iff_size_eq_zero,List.isEmpty_iff,← List.length_eq_zero_iff]; omega
  have hfr:=findE_run (P:=P) hd w (en:=en.toList) (by rw [h1]; exact hf)
  have out:∀ {u},Rel (cellf w) I ρ.length β res u→Rel (cellf w) I ρ.length β (if ok then .tup [res,.sc (.bool b)] else res) (if ok then .tuple #[u,.bool b] else u):=by
   intro u hu
   cases ok
   ·exact hu
   ·refine .tup _ _ (by simp) (fun j hj=>?_)
    cases j with
    | zero=>exact hu
    | succ j=>cases j with
     | zero=>exact .sc _
     | succ j=>exact absurd hj (by simp)
  cases hit with
  | some j =>
   obtain ⟨e,hej,rfl,rfl⟩:=hr
   have hjl:=(findE_lt hf).2
   have hj:j<en.toList.length:=by simp at hjl; omega
   refine ⟨_,?_,out (h3 j _ e (List.getElem?_eq_getElem hj) hej)⟩
   rw [Sem.run_bind,hemp,run_of_pv hc w,Result.andThen_ok,Sem.run_bind,hfr]
   have eg:en.toList.getD j default=en.toList[j]:=by rw [List.getD,List.getElem?_eq_getElem hj]; rfl
   simp only [Option.map_some,Result.andThen_ok,eg]
   rfl
  | none =>
   obtain ⟨hz,rfl⟩:=hr
   obtain ⟨zv,hzr,rfl⟩:=run_zero hz w
   refine ⟨_,?_,out (ofV_rel _ _ _ _ zv)⟩
   rw [Sem.run_bind,hemp,run_of_pv hc w,Result.andThen_ok,Sem.run_bind,hfr]
   simp only [Option.map_none,Result.andThen_ok,Sem.run_bind,hzr]
   rfl
 unfold Instr.lookup
 rcases entA_spec he hs hx with ⟨rfl,rfl⟩ | ⟨r,R,l,n,en,rfl,hR,ho,hl,rfl,hh,h1,h2,h3,h4⟩
 ·obtain ⟨u,h5,h6⟩:=found #[] rfl rfl (fun i e y h=>by simp at h)
  refine ⟨u,?_,h6⟩
  rw [Sem.run_bind,run_underlying hu,Result.andThen_ok]
  simp only [Sem.run_bind,Sem.run_pure,Result.andThen_ok] at h5 ⊢
  exact h5
 ·obtain ⟨u,h5,h6⟩:=found en h1 h3 h4
  refine ⟨u,?_,h6⟩
  have hg:(getObj l.b).run P w=.ok (.map en n) w:=by simp [getObj,Sem.run,hh]
  rw [Sem.run_bind,run_underlying hu,Result.andThen_ok]
  simp only [Sem.run_bind,hg,Sem.run_pure,Result.andThen_ok] at h5 ⊢
  exact h5

end Go.Lg
