import Derived.Test.YtpdcajchppoocaaLo
set_option linter.unusedVariables false
set_option linter.unusedSimpArgs false
namespace Go.Lg
variable {P:Program}

theorem aop_congr {o:Oper} {ev ev':Operand→AV} (h:∀ x ∈ o.op.operands.toList,ev x=ev' x) {ρ:Store} {v:AV} {ρ':Store} (ha:aop P o ev ρ v ρ'):aop P o ev' ρ v ρ':=by
 obtain ⟨dst,op,type,pos,after,guard⟩:=o
 simp only at h
 cases op with
 | call c =>
  have hargs:c.args.toList.map ev=c.args.toList.map ev':=List.map_congr_left (fun x hx=>h x (by simp [Op.operands,Call.operands,hx]))
  simp only [aop] at ha ⊢
  unfold aCall at ha ⊢
  cases hc:c.callee with
  | builtin b =>
   simp only [hc] at ha ⊢
   by_cases hb:b=.append
   ·subst hb
    dsimp only at ha ⊢
    cases h1:c.args.toList with
    | nil=>simp only [h1] at ha
    | cons s l =>
     cases l with
     | nil=>simp only [h1] at ha
     | cons x l =>
      have e1:ev s=ev' s:=h s (by simp only [Op.operands,Call.operands,hc,Array.toList_append,h1]; simp)
      have e2:ev x=ev' x:=h x (by simp only [Op.operands,Call.operands,hc,Array.toList_append,h1]; simp)
      cases l with
      | cons y l=>simp only [h1] at ha
      | nil =>
       cases h2:c.argTypes.toList with
       | nil=>simp only [h1,h2] at ha
       | cons t tl =>
        cases tl with
        | nil=>simp only [h1,h2] at ha
        | cons t' tl =>
         cases tl with
         | cons y tl=>simp only [h1,h2] at ha
         | nil =>
          simp only [h1,h2] at ha ⊢
          rw [e1,e2] at ha; exact ha
   ·have two:∀ (f:Operand→Operand→TypeId→TypeId→Prop) (g:Operand→Operand→TypeId→TypeId→Prop),(∀ d s t t',d ∈ c.args.toList→s ∈ c.args.toList→f d s t t'→g d s t t') →
      (match c.args.toList,c.argTypes.toList with | [d,s],[t,t']=>f d s t t' | _,_=>False)→(match c.args.toList,c.argTypes.toList with | [d,s],[t,t']=>g d s t t' | _,_=>False):=by
     intro f g hfg hh
     split at hh
     ·rename_i d s t t' e1 e2
      have:=hfg d s t t' (by rw [e1]; simp) (by rw [e1]; simp) hh
      first | exact this | (rw [e1,e2]; exact this)
     ·exact hh.elim
    have one:∀ (f:Operand→TypeId→Prop) (g:Operand→TypeId→Prop),(∀ d t,d ∈ c.args.toList→f d t→g d t) →
      (match c.args.toList,c.argTypes.toList with | [d],[t]=>f d t | _,_=>False)→(match c.args.toList,c.argTypes.toList with | [d],[t]=>g d t | _,_=>False):=by
     intro f g hfg hh
     split at hh
     ·rename_i d t e1 e2
      have:=hfg d t (by rw [e1]; simp) hh
      first | exact this | (rw [e1,e2]; exact this)
     ·exact hh.elim
    have evs:∀ x ∈ c.args.toList,ev x=ev' x:=fun x hx=>h x (by simp [Op.operands,Call.operands,hx])
    cases b
    case copy=>exact two (fun d s t t'=>aCopy P t (ev d) (ev s) ρ v ρ') (fun d s t t'=>aCopy P t (ev' d) (ev' s) ρ v ρ') (fun d s t t' h1 h2 hh=>by rw [← evs d h1,← evs s h2]; exact hh) ha
    case clear=>exact one (fun d t=>aClear P t (ev d) ρ v ρ') (fun d t=>aClear P t (ev' d) ρ v ρ') (fun d t h1 hh=>by rw [← evs d h1]; exact hh) ha
    all_goals first | exact absurd rfl hb | (simp only [hargs] at ha ⊢; exact ha)
  | value f =>
   have hf:ev f=ev' f:=h f (by simp [Op.operands,Call.operands,hc])
   simp only [hc,hargs,hf] at ha ⊢
   exact ha
  | invoke r m =>
   have hr:ev r=ev' r:=h r (by simp [Op.operands,Call.operands,hc])
   simp only [hc,hargs,hr] at ha ⊢
   exact ha
 | buildSlice t len parts =>
  have:(parts.toList.map fun p=>(p.1,ev p.2))=(parts.toList.map fun p=>(p.1,ev' p.2)) :=
   List.map_congr_left (fun p hp=>by rw [h p.2 (by simp [Op.operands]; exact ⟨p.1,by simpa using hp⟩)])
  simp only [aop,this] at ha ⊢; exact ha
 | build t parts =>
  have:(parts.toList.map fun p=>(p.1,ev p.2))=(parts.toList.map fun p=>(p.1,ev' p.2)) :=
   List.map_congr_left (fun p hp=>by rw [h p.2 (by simp [Op.operands]; exact ⟨p.1,by simpa using hp⟩)])
  simp only [aop,aPure,this] at ha ⊢; exact ha
 | makeFunc fn fs cs =>
  have h1:fs.toList.map ev=fs.toList.map ev':=List.map_congr_left (fun x hx=>h x (by simp [Op.operands]; exact .inl (by simpa using hx)))
  have h2:cs.toList.map ev=cs.toList.map ev':=List.map_congr_left (fun x hx=>h x (by simp [Op.operands]; exact .inr (by simpa using hx)))
  simp only [aop,aPure,h1,h2] at ha ⊢; exact ha
 | slice t x lo hi mx =>
  have h1:lo.map ev=lo.map ev':=by cases lo with
   | none=>rfl
   | some z=>simp [h z (by simp [Op.operands])]
  have h2:hi.map ev=hi.map ev':=by cases hi with
   | none=>rfl
   | some z=>simp [h z (by simp [Op.operands])]
  have h3:ev x=ev' x:=h x (by simp [Op.operands])
  have h4:mx.map ev=mx.map ev':=by cases mx with
   | none=>rfl
   | some z=>simp [h z (by simp [Op.operands])]
  simp only [aop,aPure,h1,h2,h3,h4] at ha ⊢; exact ha
 | pick c a b =>
  have h1:=h c (by simp [Op.operands])
  have h2:=h a (by simp [Op.operands])
  have h3:=h b (by simp [Op.operands])
  simp only [aop,aPure,h1,h2,h3] at ha ⊢; exact ha
 | binOp op t x y yt =>
  have h1:=h x (by simp [Op.operands])
  have h2:=h y (by simp [Op.operands])
  simp only [aop,aPure,h1,h2] at ha ⊢; exact ha
 | store t x y =>
  have h1:=h x (by simp [Op.operands])
  have h2:=h y (by simp [Op.operands])
  simp only [aop,h1,h2] at ha ⊢; exact ha
 | makeSlice t x y =>
  have h1:=h x (by simp [Op.operands])
  have h2:=h y (by simp [Op.operands])
  simp only [aop,h1,h2] at ha ⊢; exact ha
 | indexAddr t x y =>
  have h1:=h x (by simp [Op.operands])
  have h2:=h y (by simp [Op.operands])
  simp only [aop,aPure,h1,h2] at ha ⊢; exact ha
 | index t x y =>
  have h1:=h x (by simp [Op.operands])
  have h2:=h y (by simp [Op.operands])
  simp only [aop,aPure,h1,h2] at ha ⊢; exact ha
 | alloc t=>exact ha
 | makeMap t r =>
  have h1:r.map ev=r.map ev':=by cases r with
   | none=>rfl
   | some z=>simp [h z (by simp [Op.operands])]
  simp only [aop,h1] at ha ⊢; exact ha
 | mapUpdate t m k x =>
  have h1:=h m (by simp [Op.operands])
  have h2:=h k (by simp [Op.operands])
  have h3:=h x (by simp [Op.operands])
  simp only [aop,h1,h2,h3] at ha ⊢; exact ha
 | insert t m k x =>
  have h1:=h m (by simp [Op.operands])
  have h2:=h k (by simp [Op.operands])
  have h3:=h x (by simp [Op.operands])
  simp only [aop,h1,h2,h3] at ha ⊢; exact ha
 | lookup t x i ok =>
  have h1:=h x (by simp [Op.operands])
  have h2:=h i (by simp [Op.operands])
  simp only [aop,h1,h2] at ha ⊢; exact ha
 | makeInterface t x=>have h1:=h x (by simp [Op.operands]); simp only [aop,h1] at ha ⊢; exact ha
 | typeAssert x xt as ok=>have h1:=h x (by simp [Op.operands]); simp only [aop,h1] at ha ⊢; exact ha
 | move x=>have h1:=h x (by simp [Op.operands]); simp only [aop,aPure,h1] at ha ⊢; exact ha
 | assign x=>have h1:=h x (by simp [Op.operands]); simp only [aop,aPure,h1] at ha ⊢; exact ha
 | box t x=>have h1:=h x (by simp [Op.operands]); simp only [aop,h1] at ha ⊢; exact ha
 | load t x=>have h1:=h x (by simp [Op.operands]); simp only [aop,aPure,h1] at ha ⊢; exact ha
 | nilCheck x=>have h1:=h x (by simp [Op.operands]); simp only [aop,aPure,h1] at ha ⊢; exact ha
 | unOp op t x=>have h1:=h x (by simp [Op.operands]); simp only [aop,aPure,h1] at ha ⊢; exact ha
 | convert s d x=>have h1:=h x (by simp [Op.operands]); simp only [aop,aPure,h1] at ha ⊢; exact ha
 | fieldAddr s x f=>have h1:=h x (by simp [Op.operands]); simp only [aop,aPure,h1] at ha ⊢; exact ha
 | field s x f=>have h1:=h x (by simp [Op.operands]); simp only [aop,aPure,h1] at ha ⊢; exact ha
 | extract x i=>have h1:=h x (by simp [Op.operands]); simp only [aop,aPure,h1] at ha ⊢; exact ha
 | _=>simp only [aop,aPure] at ha; exact ha.1.elim

theorem aCallW_congr {o:Oper} {ev ev':Operand→AV} (h:∀ x ∈ o.op.operands.toList,ev x=ev' x) {ρ:Store} {v:AV} {ρ':Store} (ha:aCallW P o ev ρ v ρ'):aCallW P o ev' ρ v ρ':=by
 unfold aCallW at ha ⊢
 split at ha
 ·rename_i c ho
  rw [ho] at h
  split at ha
  ·rename_i f hc
   have hargs:c.args.toList.map ev=c.args.toList.map ev':=List.map_congr_left (fun x hx=>h x (by simp [Op.operands,Call.operands,hx]))
   have hf:ev f=ev' f:=h f (by simp [Op.operands,Call.operands,hc])
   rw [hargs,hf] at ha
   exact ha
  ·rename_i r name hc
   have hargs:c.args.toList.map ev=c.args.toList.map ev':=List.map_congr_left (fun x hx=>h x (by simp [Op.operands,Call.operands,hx]))
   have hr:ev r=ev' r:=h r (by simp [Op.operands,Call.operands,hc])
   rw [hargs,hr] at ha
   exact ha
  ·exact ha.elim
 ·exact ha.elim
theorem aLitO_congr {o:Oper} {ev ev':Operand→AV} (h:∀ x ∈ o.op.operands.toList,ev x=ev' x) {ρ:Store} {v:AV} {ρ':Store} (ha:aLitO P o ev ρ v ρ'):aLitO P o ev' ρ v ρ':=by
 unfold aLitO at ha ⊢
 split at ha
 ·rename_i t len parts ho
  rw [ho] at h
  have:(parts.toList.map fun p=>(p.1,ev p.2))=(parts.toList.map fun p=>(p.1,ev' p.2)) :=
   List.map_congr_left (fun p hp=>by rw [h p.2 (by simp [Op.operands]; exact ⟨p.1,by simpa using hp⟩)])
  rw [this] at ha
  exact ha
 ·exact ha.elim
theorem bop_congr {W:WS} {o:Oper} {ev ev':Operand→AV} (h:∀ x ∈ o.op.operands.toList,ev x=ev' x) {ρ:Store} {v:AV} {ρ':Store} (ha:bop P W o ev ρ v ρ'):bop P W o ev' ρ v ρ' :=
 ha.imp (fun h'=>⟨h'.1,aop_congr h h'.2⟩) (Or.imp (fun h'=>⟨h'.1,h'.2.1,fun xs=>aop_congr h (h'.2.2 xs)⟩) (Or.imp (fun h'=>⟨h'.1,aCallW_congr h h'.2⟩) (fun h'=>⟨h'.1,h'.2.1.imp (aCallW_congr h) (aLitO_congr h),h'.2.2⟩)))

def MK.keeps:MK→Bool
 | .n | .r | .c | .q=>true
 | _=>false
def mkind (o:Oper):MK:=match o.op with
 | .store .. | .mapUpdate .. | .insert ..=>.w
 | .alloc _ | .box .. | .makeSlice .. | .makeMap ..=>.a
 | .buildSlice _ len _=>if len=0 then .a else .n
 | .call c=>(match c.callee with
  | .builtin .append=>.w
  | .builtin .copy=>.w
  | .builtin .clear=>.w
  | .builtin _=>.n
  | _=>.c)
 | .load .. | .indexAddr .. | .slice .. | .lookup ..=>.r
 | _=>.n

theorem aop_keeps {o:Oper} {ev:Operand→AV} {ρ v ρ'} (hk:(mkind o).keeps=true) (h:aop P o ev ρ v ρ'):ρ'=ρ:=by
 obtain ⟨dst,op,type,pos,after,guard⟩:=o
 cases op <;> (try (cases hk; done)) <;> simp only [aop] at h <;> try exact h.2
 ·rename_i t len parts
  simp only [mkind] at hk
  split at hk
  ·cases hk
  ·rename_i hl
   obtain ⟨e,z,_,_,_,_,_,_,_,h⟩:=h
   rcases h with ⟨h0,_,_⟩ | ⟨_,_,h⟩
   ·exact absurd h0 hl
   ·exact h
 ·rename_i c
  simp only [mkind] at hk
  unfold aCall at h
  cases hc:c.callee with
  | builtin b =>
   simp only [hc] at h hk
   cases b <;> first | (cases hk; done) | exact h.2
  | value f =>
   simp only [hc] at h
   split at h
   ·exact h.2.2.2
   ·exact h.2
   ·obtain ⟨_,_,_,h⟩:=h; exact h
   ·exact h.elim
  | invoke r m =>
   simp only [hc] at h
   split at h
   ·obtain ⟨_,_,_,h⟩:=h; exact h
   ·exact h.elim

theorem aop_free {o:Oper} {ev:Operand→AV} {ρ v ρ'} (hk:mkind o=.n) (h:aop P o ev ρ v ρ') (ρ2:Store):aop P o ev ρ2 v ρ2:=by
 obtain ⟨dst,op,type,pos,after,guard⟩:=o
 cases op <;> (try (simp only [mkind,reduceCtorEq] at hk; done)) <;> simp only [aop] at h ⊢ <;> (try (simp only [aPure,and_true] at h ⊢; exact h.1)) <;> (try (simp only [and_true] at h ⊢; exact h.1))
 ·rename_i t len parts
  simp only [mkind] at hk
  split at hk
  ·cases hk
  ·rename_i hl
   obtain ⟨e,z,h1,h2,h3,h4,h5,h6,h7,h⟩:=h
   rcases h with ⟨h0,_,_⟩ | ⟨h8,h9,_⟩
   ·exact absurd h0 hl
   ·exact ⟨e,z,h1,h2,h3,h4,h5,h6,h7,.inr ⟨h8,h9,rfl⟩⟩
 ·rename_i c
  simp only [mkind] at hk
  unfold aCall at h ⊢
  cases hc:c.callee with
  | builtin b =>
   simp only [hc] at h hk ⊢
   cases b <;> first | (cases hk; done) | (dsimp only at h ⊢; first | exact ⟨h.1,rfl⟩ | exact ⟨h.1,trivial⟩)
  | value f=>simp only [hc] at hk; cases hk
  | invoke r m=>simp only [hc] at hk; cases hk

theorem getElem?_snoc_old {ρ:Store} {r:Nat} {x y:Option Root} (h:ρ[r]?=some y):(ρ ++ [x])[r]?=some y:=by
 rw [List.getElem?_append_left (List.getElem?_eq_some_iff.1 h).1]; exact h
theorem aop_more {o:Oper} {ev:Operand→AV} {ρ v ρ'} (hk:mkind o=.r) (h:aop P o ev ρ v ρ') (x:Option Root):aop P o ev (ρ ++ [x]) v (ρ ++ [x]):=by
 obtain ⟨dst,op,type,pos,after,guard⟩:=o
 cases op <;> (try (simp only [mkind,reduceCtorEq] at hk; done))
 ·rename_i t len parts
  simp only [mkind] at hk
  split at hk <;> cases hk
 ·rename_i t p
  simp only [aop,aPure,and_true] at h ⊢
  have h:=h.1
  unfold aLoad at h ⊢
  split at h
  ·obtain ⟨R,hR,h1,h2⟩:=h
   exact ⟨R,getElem?_snoc_old hR,h1,h2⟩
  ·exact h
  ·exact h.elim
 ·rename_i t p lo hi mx
  simp only [aop,aPure,and_true] at h ⊢
  obtain ⟨⟨h1,h2,h3⟩,_⟩:=h
  refine ⟨h1,fun r o n e=>?_,h3⟩
  obtain ⟨R,hR,h4⟩:=h2 r o n e
  exact ⟨R,getElem?_snoc_old hR,h4⟩
 ·rename_i t p i
  simp only [aop,aPure,and_true] at h ⊢
  have h:=h.1
  unfold aIndexAddr at h ⊢
  generalize ev i=y at h
  generalize ev p=z at h
  split at h
  ·cases hu:P.underlying t with
   | none=>simp only [hu] at h
   | some d =>
    simp only [hu] at h ⊢
    cases d with
    | slice e =>
     refine ⟨h.1,?_⟩
     have h:=h.2
     cases z with
     | sl r o m =>
      obtain ⟨R,hR,h4⟩:=h
      exact ⟨R,getElem?_snoc_old hR,h4⟩
     | _=>exact h
    | _=>exact h
  ·exact h.elim
 ·rename_i t p i ok
  simp only [aop,and_true] at h ⊢
  obtain ⟨kt,et,dk,k,es,hit,res,b,h1,h2,h3,h4,h5⟩:=h.1
  refine ⟨kt,et,dk,k,es,hit,res,b,h1,h2,h3,?_,h5⟩
  unfold entA at h4 ⊢
  split at h4
  ·split at h4
   ·rename_i hR; rw [getElem?_snoc_old hR]; exact h4
   ·cases h4
  ·exact h4
  ·cases h4
 ·rename_i c
  simp only [mkind] at hk
  split at hk <;> cases hk
theorem aop_made {o:Oper} {ev:Operand→AV} {ρ v ρ'} (hk:mkind o=.a) (h:aop P o ev ρ v ρ'):∃ x,ρ'=ρ ++ [x]:=by
 obtain ⟨dst,op,type,pos,after,guard⟩:=o
 cases op <;> (try (simp only [mkind,reduceCtorEq] at hk; done)) <;> simp only [aop] at h
 ·obtain ⟨z,_,_,_,_,h⟩:=h; exact ⟨_,h⟩
 ·obtain ⟨_,_,_,h⟩:=h; exact ⟨_,h⟩
 ·rename_i t len parts
  simp only [mkind] at hk
  split at hk
  ·rename_i hl
   obtain ⟨e,z,_,_,_,_,_,_,_,h⟩:=h
   rcases h with ⟨_,_,h⟩ | ⟨h0,_⟩
   ·exact ⟨_,h⟩
   ·exact absurd hl h0
  ·cases hk
 ·obtain ⟨_,_,h⟩:=h; exact ⟨_,h⟩
 ·obtain ⟨e,z,K,n,K',m,_,_,_,_,_,_,_,_,_,_,_,_,h⟩:=h; exact ⟨_,h⟩
 ·rename_i c
  simp only [mkind] at hk
  split at hk <;> cases hk
theorem aop_more' {o:Oper} {ev:Operand→AV} {v} (hk:mkind o=.r):∀ (xs:List (Option Root)) {ρ:Store},aop P o ev ρ v ρ→aop P o ev (ρ ++ xs) v (ρ ++ xs)
 | [],ρ,h=>by simpa using h
 | x :: xs,ρ,h=>by
  have:=aop_more' hk xs (aop_more hk h x)
  simpa using this
def mkindW (W:WS) (o:Oper):MK:=match isW W o with
 | some k=>k
 | none=>mkind o
theorem bop_keeps {W:WS} {o:Oper} {ev:Operand→AV} {ρ v ρ'} (hk:(mkindW W o).keeps=true) (h:bop P W o ev ρ v ρ'):ρ'=ρ:=by
 unfold mkindW at hk
 rcases h with h | h | h | h <;> rw [h.1] at hk
 ·exact aop_keeps hk h.2
 ·exact h.2.1
 ·cases hk
 ·cases hk
theorem bop_free {W:WS} {o:Oper} {ev:Operand→AV} {ρ v ρ'} (hk:mkindW W o=.n) (h:bop P W o ev ρ v ρ') (ρ2:Store):bop P W o ev ρ2 v ρ2:=by
 unfold mkindW at hk
 rcases h with h | h | h | h <;> rw [h.1] at hk
 ·exact .inl ⟨h.1,aop_free hk h.2 ρ2⟩
 ·cases hk
 ·cases hk
 ·cases hk
theorem bop_more {W:WS} {o:Oper} {ev:Operand→AV} {ρ v} (hk:mkindW W o=.r∨mkindW W o=.q) (h:bop P W o ev ρ v ρ) (xs:List (Option Root)):bop P W o ev (ρ ++ xs) v (ρ ++ xs):=by
 unfold mkindW at hk
 rcases h with h | h | h | h <;> rw [h.1] at hk
 ·rcases hk with hk | hk
  ·exact .inl ⟨h.1,aop_more' hk xs h.2⟩
  ·exfalso
   revert hk
   simp only [mkind]
   cases o.op <;> simp
   ·split <;> simp
   ·split <;> simp
 ·exact .inr (.inl ⟨h.1,rfl,fun ys=>by rw [List.append_assoc]; exact h.2.2 (xs ++ ys)⟩)
 ·rcases hk with hk | hk <;> cases hk
 ·rcases hk with hk | hk <;> cases hk
theorem bop_made {W:WS} {o:Oper} {ev:Operand→AV} {ρ v ρ'} (hk:mkindW W o=.a) (h:bop P W o ev ρ v ρ'):∃ xs,ρ'=ρ ++ xs:=by
 unfold mkindW at hk
 rcases h with h | h | h | h
 ·rw [h.1] at hk
  obtain ⟨x,hx⟩:=aop_made hk h.2
  exact ⟨[x],hx⟩
 ·rw [h.1] at hk; cases hk
 ·rw [h.1] at hk; cases hk
 ·exact h.2.2
end Go.Lg
