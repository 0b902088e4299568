import Derived.Test.YtpdcajchppoocaaC0
import Derived.Test.YtpdcajchppoocaaC1
set_option linter.unusedVariables false
set_option linter.unusedSimpArgs false
namespace Go.Lg
variable {P:Program} {W:WS}


theorem SR.adopt {w F2 I β ρ} (hs:SR w F2 I β ρ) {b:Nat} {t:TypeId} {zv:Value} {S:Nat} (hb:F2 b) (hI:¬ I b) (hh:w.heap[b]?=some (.cells zv.cells t)) (hz:w.frozen? ⟨b,0,none⟩=false) (hzz:∀ o,w.frozen? ⟨b,o,none⟩=false)
  (hcs:∀ (c:Nat→Nat→Option Value) I N β,RelL c I N β (ofV zv).cells zv.cells.toList) (hS:(ofV zv).cells.length=S) :
  SR w (fun x=>F2 x∧x≠b) I (bext β ρ.length (some ⟨b,0,S⟩)) (ρ ++ [some ⟨S,[ofV zv],none⟩]):=by
 have hlen:(ρ ++ [some (⟨S,[ofV zv],none⟩:Root)]).length=ρ.length+1:=by simp
 have old:∀ r R l,ρ[r]?=some (some R)→bext β ρ.length (some ⟨b,0,S⟩) r=some l→r<ρ.length∧β r=some l:=by
  intro r R l hr hl
  have:r<ρ.length:=(List.getElem?_eq_some_iff.1 hr).1
  exact ⟨this,by rwa [bext_old this] at hl⟩
 have up:∀ {a v},Rel (cellf w) I ρ.length β a v→Rel (cellf w) I (ρ.length+1) (bext β ρ.length (some ⟨b,0,S⟩)) a v:=fun h =>
  h.mono (fun _ _ _ _ h=>h) (fun _ _ h=>h) (fun _ h=>h) (by omega) (fun r hr=>bext_old hr)
 constructor
 ·intro r R l hr hl
  rcases getElem?_snoc hr with ⟨h1,h2⟩ | ⟨h1,h2⟩
  ·obtain ⟨a,b',c,d⟩:=hs.real r R l h2 (old r R l h2 hl).2
   exact ⟨a,b',c,fun h=>d h.1⟩
  ·subst h1; cases h2
   rw [bext_new] at hl; cases hl
   exact ⟨rfl,(Array.getElem?_eq_some_iff.1 hh).1,hI,fun h=>h.2 rfl⟩
 ·intro r R l hr hl i hi
  rw [hlen]
  rcases getElem?_snoc hr with ⟨h1,h2⟩ | ⟨h1,h2⟩
  ·obtain ⟨_,hl'⟩:=old r R l h2 hl
   obtain ⟨hz,hc⟩:=hs.cells r R l h2 hl' i hi
   refine ⟨hz,fun j hj=>?_⟩
   obtain ⟨v,h3,h4⟩:=hc j hj
   exact ⟨v,h3,up h4⟩
  ·subst h1; cases h2
   rw [bext_new] at hl; cases hl
   have:i=0:=by simpa using hi
   subst this
   refine ⟨by simpa using hS,fun j hj=>?_⟩
   obtain ⟨v,h1,h2⟩:=(hcs (cellf w) I (ρ.length+1) (bext β ρ.length (some ⟨b,0,S⟩))).get (j:=j) (by rw [hS]; exact hj)
   refine ⟨v,?_,by simpa using h2⟩
   show w.cell? ⟨b,0+0*S+j,none⟩=some v
   unfold World.cell?
   simp only [hh]
   simpa using h1
 ·intro r R hr hl
  rcases getElem?_snoc hr with ⟨h1,h2⟩ | ⟨h1,h2⟩
  ·rw [bext_old h1] at hl; exact hs.phantom r R h2 hl
  ·subst h1; rw [bext_new] at hl; cases hl
 ·intro r s R S' l m hr hsr hl hm he
  rcases getElem?_snoc hr with ⟨h1,h2⟩ | ⟨h1,h2⟩ <;> rcases getElem?_snoc hsr with ⟨h3,h4⟩ | ⟨h3,h4⟩
  ·exact hs.inj r s R S' l m h2 h4 (old r R l h2 hl).2 (old s S' m h4 hm).2 he
  ·subst h3; rw [bext_new] at hm; cases hm
   exact absurd (he ▸ hb) (hs.real r R l h2 (old r R l h2 hl).2).2.2.2
  ·subst h1; rw [bext_new] at hl; cases hl
   exact absurd (he ▸ hb) (hs.real s S' m h4 (old s S' m h4 hm).2).2.2.2
  ·omega
 ·exact hs.ilt
 ·intro x hx; exact hs.flt x hx.1
 ·intro r R l hr hl o
  rcases getElem?_snoc hr with ⟨h1,h2⟩ | ⟨h1,h2⟩
  ·exact hs.thaw r R l h2 (old r R l h2 hl).2 o
  ·subst h1; rw [bext_new] at hl; cases hl
   exact hzz o
 ·intro r R o hr ho
  rw [hlen]
  rcases getElem?_snoc hr with ⟨h1,h2⟩ | ⟨h1,h2⟩
  ·obtain ⟨e,l,x,h3,h4,h5⟩:=hs.obs r R o h2 ho
   exact ⟨e,l,x,by rw [bext_old h1]; exact h3,h4,h5.mono fun a v=>up⟩
  ·cases h2; cases ho

theorem alloc_pend {C:Ctx} {a w A ρ} (hs:SRel C a w A ρ) {o:Oper} {d:Tmp} {t:TypeId} (ho:o.op=.alloc t) {z:AV} (hz:zeroA P t=some z) (hzo:z.ok=true) (hzl:z.cells.length=P.cellsOf t) :
  ∃ (u:Value) (w1:World) (C2:Ctx),(execOp a.eval o).run P w=.ok (.value u) w1∧C2.rd=C.rd∧SRel C2 (a.put (some d) u) w1 (A.set d (.sc u)) ρ ∧
   ∀ (a':Act) (w':World) (A':List AV) (ρ':Store),SRel C2 a' w' (A'.set d (.sc u)) ρ'→SRel C a' w' (A'.set d (.ptr ρ'.length 0 0)) (ρ' ++ [some ⟨P.cellsOf t,[z],none⟩]):=by
 obtain ⟨I,β,hk,h0,F',⟨hF,hM⟩,hf⟩:=hs
 obtain ⟨zv,hzv,rfl⟩:=run_zero hz w
 have hcc:∀ (c:Nat→Nat→Option Value) I N β,RelL c I N β (ofV zv).cells zv.cells.toList:=fun c I N β=>(ok_cells (ofV_rel c I N β zv) hzo).1
 have hrun:(newVar t zv).run P w=.ok ⟨w.heap.size,0,none⟩ (w.alloc (.cells zv.cells t)):=by
  simp only [newVar,newRow,Sem.run_bind,run_newObj,Result.andThen_ok,Sem.run_pure]; rfl
 have hcf:∀ x,C.F x→x<w.heap.size:=fun x hx=>hf.sr.flt x (hF x hx)
 have hsr1:=hf.sr.alloc (.cells zv.cells t)
 have hmk:Marked (w.alloc (.cells zv.cells t)) (fun x=>F' x∨x=w.heap.size) I (a.put (some d) (.pointer (some ⟨w.heap.size,0,none⟩))):=by
  obtain ⟨Ds,d1,d2,d3⟩:=hf.df
  refine ⟨Ds,d1,d2,fun D hd=>?_⟩
  obtain ⟨b1,b2,b3⟩:=d3 D hd
  exact ⟨.inl b1,b2,(Go.RowKit.Below.heap_alloc w _ D (hf.sr.flt D b1)).trans b3⟩
 refine ⟨.pointer (some ⟨w.heap.size,0,none⟩),w.alloc (.cells zv.cells t),⟨fun x=>C.F x∨x=w.heap.size,I,w.alloc (.cells zv.cells t),w.alloc (.cells zv.cells t),C.rd,false,C.M,fun h=>(by cases h),ρ.length,β⟩,?_,rfl,?_,?_⟩
 ·unfold execOp; simp [ho,Instr.alloc,hzv,hrun]
 ·refine ⟨I,β,Keeps.refl _ _,Grow.refl _ _ _ _,fun x=>F' x∨x=w.heap.size,⟨fun x hx=>hx.imp (hF x) id,hM⟩,?_⟩
  have hg:=Grow.alloc w (.cells zv.cells t) I ρ.length β
  exact hf.putM (some d) hg hsr1 (by obtain ⟨Ds,d1,d2,d3⟩:=hmk; exact ⟨Ds,d1,d2,d3⟩) (.sc _)
 ·rintro a' w' A' ρ' ⟨I2,β2,hk2,hg2,F2,⟨hF2,hM2⟩,hf2⟩
  have hb2:F2 w.heap.size:=hF2 _ (.inr rfl)
  have hblk:w'.heap[w.heap.size]?=some (.cells zv.cells t):=(hk2.block _ (.inr rfl)).trans (World.alloc_heap_new w _)
  have hI2:¬ I2 w.heap.size:=fun h=>by
   rcases hg2.hI2 _ h with h | h
   ·exact Nat.lt_irrefl _ (hf.sr.ilt _ h)
   ·have h:(w.alloc (.cells zv.cells t)).heap.size≤w.heap.size:=h
    rw [alloc_size] at h; omega
  have hfz:∀ o,w'.frozen? ⟨w.heap.size,o,none⟩=false:=fun o=>by
   rw [World.frozen?_of_block (w:=w.alloc (.cells zv.cells t)) (a:=⟨w.heap.size,o,none⟩) (hk2.block _ (.inr rfl))]
   exact World.frozen?_alloc_new w _ t o
  have hsr:=hf2.sr.adopt (b:=w.heap.size) (t:=t) (zv:=zv) (S:=P.cellsOf t) hb2 hI2 hblk (hfz 0) hfz hcc hzl
  have hlen:(ρ' ++ [some (⟨P.cellsOf t,[ofV zv],none⟩:Root)]).length=ρ'.length+1:=by simp
  have hgn:Grow w' w' I2 I2 ρ'.length (ρ'.length+1) β2 (bext β2 ρ'.length (some ⟨w.heap.size,0,P.cellsOf t⟩)):=Grow.noneRow _ _ _ _ _
  have hsz2:(A'.set d (.ptr ρ'.length 0 0)).length=(A'.set d (.sc (.pointer (some ⟨w.heap.size,0,none⟩)))).length:=by simp
  refine ⟨I2,_,hk.trans ((Keeps.alloc w (.cells zv.cells t) hcf).trans (hk2.sub fun x hx=>.inl hx)),?_,fun x=>F2 x∧x≠w.heap.size,⟨fun x hx=>⟨hF2 x (.inl hx),fun e=>by have:=hcf x hx; omega⟩,hM2⟩,⟨hsr,?_,hf2.size.trans hsz2.symm,fun i hi=>?_⟩⟩
  ·rw [hlen]
   exact h0.trans ((Grow.alloc w (.cells zv.cells t) I ρ.length β).trans (hg2.trans hgn))
  ·obtain ⟨Ds,d1,d2,d3⟩:=hf2.df
   refine ⟨Ds,d1,d2,fun D hd=>?_⟩
   obtain ⟨b1,b2,b3⟩:=d3 D hd
   exact ⟨⟨b1,fun e=>by rw [e,hblk] at b3; cases b3⟩,b2,b3⟩
  ·rw [hsz2] at hi
   have hr:=hf2.rel i hi
   rw [hlen]
   have hi':i<A'.length:=by simpa using hi
   by_cases e:d=i
   ·subst e
    have e1:(A'.set d (AV.ptr ρ'.length 0 0)).getD d .any=.ptr ρ'.length 0 0:=by simp [List.getD,hi']
    have e2:(A'.set d (AV.sc (.pointer (some ⟨w.heap.size,0,none⟩)))).getD d .any=.sc (.pointer (some ⟨w.heap.size,0,none⟩)):=by simp [List.getD,hi']
    rw [e2] at hr
    rw [e1]
    generalize a'.tmps.getD d undef=vv at hr
    cases hr
    have:=Rel.ptr (c:=cellf w') (I:=I2) (N:=ρ'.length+1) (β:=bext β2 ρ'.length (some ⟨w.heap.size,0,P.cellsOf t⟩)) ρ'.length 0 0 ⟨w.heap.size,0,P.cellsOf t⟩ (by omega) bext_new
    simpa using this
   ·have e1:(A'.set d (AV.ptr ρ'.length 0 0)).getD i .any=A'.getD i .any:=by simp [List.getD,List.getElem?_set_ne e]
    have e2:(A'.set d (AV.sc (.pointer (some ⟨w.heap.size,0,none⟩)))).getD i .any=A'.getD i .any:=by simp [List.getD,List.getElem?_set_ne e]
    rw [e1]; rw [e2] at hr
    exact hgn.rel hr
end Go.Lg

namespace Go.Lg
variable {P:Program} {W:WS}


abbrev DS:=List (Nat × Nat)
def ptrRow:AV→Option Nat
 | .ptr r _ _=>some r
 | _=>none
def memOp (o:Oper):Option Operand:=match o.guard with
 | none=>(match o.op with
  | .load _ p=>some p
  | .store _ p _=>some p
  | _=>none)
 | some _=>none
def rowOK (D:DS) (ops:Array Oper) (i:Nat) (A:List AV):Prop:=match D.lookup i with
 | none=>True
 | some r=>∃ p,memOp (opAt ops i)=some p∧ptrRow (aev A p)=some r
def stepI (P:Program) (W:WS) (ops:Array Oper) (D:DS) (i:Nat) (A:List AV) (ρ:Store) (v:AV) (ρ':Store):Prop:=stepV P W ops (opAt ops i) A ρ v ρ'∧rowOK D ops i A

def memR (P:Program) (o:Oper) (A:List AV) (R:Root) (v:AV) (R':Root):Prop:=match o.op with
 | .load t p=>(match aev A p with
  | .ptr r i j=>i<R.els.length∧pack P t ((R.els.getD i .any).cells.drop j)=some v∧R'=R
  | _=>False)
 | .store t p x=>(match aev A p with
  | .ptr r i j=>i<R.els.length∧known P t=true∧(aev A x).ok=true∧(aev A x).cells.length=P.cellsOf t∧(aev A x).cells.length≠0∧j+(aev A x).cells.length≤R.sz∧v=.any∧R'=⟨R.sz,R.els.set i (putEl (R.els.getD i .any) j (aev A x)),R.ob⟩
  | _=>False)
 | _=>False
theorem set_self {α:Type} {l:List α} {r:Nat} {x:α} (h:l[r]?=some x):l.set r x=l:=by
 apply List.ext_getElem?
 intro i
 by_cases e:r=i
 ·subst e; rw [List.getElem?_set_self (List.getElem?_eq_some_iff.1 h).1,h]
 ·rw [List.getElem?_set_ne e]
theorem mem_step {ops:Array Oper} {o:Oper} {p:Operand} {A ρ v ρ' r} (hm:memOp o=some p) (hp:ptrRow (aev A p)=some r):stepV P W ops o A ρ v ρ'↔∃ R R',ρ[r]?=some (some R)∧memR P o A R v R'∧ρ'=ρ.set r (some R'):=by
 unfold memOp at hm
 split at hm
 ·rename_i hg
  have hptr:∃ i j,aev A p=.ptr r i j:=by
   unfold ptrRow at hp
   split at hp
   ·cases hp; exact ⟨_,_,by assumption⟩
   ·cases hp
  obtain ⟨i,j,hij⟩:=hptr
  split at hm
  ·rename_i t p' ho
   cases hm
   have hn:isW W o=none:=by unfold isW fnCall litDst; rw [ho]
   unfold stepV
   simp only [hg]
   constructor
   ·rintro (h | h | h | h)
    ·have h:=h.2
     unfold aop at h
     simp only [ho] at h
     obtain ⟨h,rfl⟩:=h
     unfold aPure at h
     simp only [ho] at h
     unfold aLoad at h
     rw [hij] at h
     obtain ⟨R,h1,h2,h3⟩:=h
     exact ⟨R,R,h1,by unfold memR; simp only [ho,hij]; exact ⟨h2,h3,trivial⟩,(set_self h1).symm⟩
    ·rw [hn] at h; cases h.1
    ·rw [hn] at h; cases h.1
    ·rw [hn] at h; cases h.1
   ·rintro ⟨R,R',h1,h2,rfl⟩
    unfold memR at h2
    simp only [ho,hij] at h2
    obtain ⟨h2,h3,rfl⟩:=h2
    refine .inl ⟨hn,?_⟩
    unfold aop
    simp only [ho]
    refine ⟨?_,set_self h1⟩
    unfold aPure
    simp only [ho]
    unfold aLoad
    rw [hij]
    exact ⟨_,h1,h2,h3⟩
  ·rename_i t p' x ho
   cases hm
   have hn:isW W o=none:=by unfold isW fnCall litDst; rw [ho]
   unfold stepV
   simp only [hg]
   constructor
   ·rintro (h | h | h | h)
    ·have h:=h.2
     unfold aop at h
     simp only [ho] at h
     unfold aStore at h
     rw [hij] at h
     obtain ⟨R,h1,h2,h3,h4,h5,h6,h7,h8,h9⟩:=h
     exact ⟨R,⟨R.sz,R.els.set i (putEl (R.els.getD i .any) j (aev A x)),R.ob⟩,h1,by unfold memR; simp only [ho,hij]; exact ⟨h2,h3,h4,h5,h6,h7,h8,by first | rfl | trivial⟩,h9⟩
    ·rw [hn] at h; cases h.1
    ·rw [hn] at h; cases h.1
    ·rw [hn] at h; cases h.1
   ·rintro ⟨R,R',h1,h2,rfl⟩
    unfold memR at h2
    simp only [ho,hij] at h2
    obtain ⟨h2,h3,h4,h5,h6,h7,h8,rfl⟩:=h2
    refine .inl ⟨hn,?_⟩
    unfold aop
    simp only [ho]
    unfold aStore
    rw [hij]
    exact ⟨R,h1,h2,h3,h4,h5,h6,h7,h8,by first | rfl | trivial⟩
  ·cases hm
 ·cases hm

def apartD (D:DS) (j i:Nat):Bool:=match D.lookup j,D.lookup i with
 | some a,some b=>!Nat.beq a b
 | _,_=>false
def conflictI (W:WS) (ops:Array Oper) (D:DS) (j i:Nat):Bool:=conflictS ops (opAt ops j) (opAt ops i) || (conflictM W (opAt ops j) (opAt ops i) && !apartD D j i)

theorem memOp_rds {ops:Array Oper} {o:Oper} {t:Tmp} (h:memOp o=some (.tmp t)):t ∈ rds ops o:=by
 unfold memOp at h
 split at h
 ·split at h
  ·rename_i ho; cases h
   exact List.mem_append_left _ (List.mem_filterMap.2 ⟨.tmp t,by rw [ho]; simp [Op.operands],rfl⟩)
  ·rename_i ho; cases h
   exact List.mem_append_left _ (List.mem_filterMap.2 ⟨.tmp t,by rw [ho]; simp [Op.operands],rfl⟩)
  ·cases h
 ·cases h
theorem rowOK_put {D:DS} {ops:Array Oper} {i:Nat} {A:List AV} {d:Option Tmp} {v:AV} (h:∀ t,d=some t→t ∉ rds ops (opAt ops i)):rowOK D ops i (putA A d v)↔rowOK D ops i A:=by
 unfold rowOK
 split
 ·exact Iff.rfl
 ·rename_i r _
  have key:∀ p,memOp (opAt ops i)=some p→aev (putA A d v) p=aev A p:=by
   intro p hp
   cases p with
   | tmp t =>
    refine putA_get (fun e=>?_)
    exact h t e (memOp_rds hp)
   | _=>rfl
  constructor
  ·rintro ⟨p,h1,h2⟩; exact ⟨p,h1,by rw [← key p h1]; exact h2⟩
  ·rintro ⟨p,h1,h2⟩; exact ⟨p,h1,by rw [key p h1]; exact h2⟩
theorem stepI_congr {ops:Array Oper} {D:DS} {i:Nat} {A A1:List AV} {ρ v ρ'} (h:∀ t ∈ rds ops (opAt ops i),A.getD t .any=A1.getD t .any) (hs:stepI P W ops D i A ρ v ρ'):stepI P W ops D i A1 ρ v ρ':=by
 refine ⟨stepV_congr h hs.1,?_⟩
 have h2:=hs.2
 unfold rowOK at h2 ⊢
 split
 ·trivial
 ·rename_i r hr
  simp only [hr] at h2
  obtain ⟨p,h3,h4⟩:=h2
  refine ⟨p,h3,?_⟩
  cases p with
  | tmp t =>
   have:aev A1 (.tmp t)=aev A (.tmp t):=(h t (memOp_rds h3)).symm
   rw [this]; exact h4
  | _=>exact h4

theorem conflictS_slots {ops:Array Oper} {x y:Oper} (h:conflictS ops x y=false):(∀ t,x.dst=some t→t ∉ rds ops y)∧(∀ t,y.dst=some t→t ∉ rds ops x)∧∀ t,¬ (x.dst=some t∧y.dst=some t):=by
 unfold conflictS at h
 simp only [Bool.or_eq_false_iff] at h
 obtain ⟨⟨h1,h2⟩,h3⟩:=h
 refine ⟨fun t e hm=>?_,fun t e hm=>?_,fun t ⟨e1,e2⟩=>?_⟩
 ·rw [e] at h1; simp only at h1
  rw [List.contains_iff_mem.2 hm] at h1; cases h1
 ·rw [e] at h2; simp only at h2
  rw [List.contains_iff_mem.2 hm] at h2; cases h2
 ·rw [e1,e2] at h3; simp at h3

theorem swapI {ops:Array Oper} {D:DS} {x y:Nat} (hc:conflictI W ops D x y=false) {A:List AV} {ρ ρ1 ρ2 vx vy} (hx:stepI P W ops D x A ρ vx ρ1) (hy:stepI P W ops D y (putA A (opAt ops x).dst vx) ρ1 vy ρ2) :
  ∃ ρ1',stepI P W ops D y A ρ vy ρ1'∧stepI P W ops D x (putA A (opAt ops y).dst vy) ρ1' vx ρ2∧putA (putA A (opAt ops x).dst vx) (opAt ops y).dst vy=putA (putA A (opAt ops y).dst vy) (opAt ops x).dst vx:=by
 unfold conflictI at hc
 simp only [Bool.or_eq_false_iff] at hc
 obtain ⟨hS,hM⟩:=hc
 obtain ⟨s1,s2,s3⟩:=conflictS_slots hS
 by_cases hm:conflictM W (opAt ops x) (opAt ops y)=false
 ·obtain ⟨ρ1',h1,h2,h3⟩:=swap (P:=P) (W:=W) (ops:=ops) (x:=opAt ops x) (y:=opAt ops y) (by unfold conflictB; rw [hm,hS]; rfl) hx.1 hy.1
  exact ⟨ρ1',⟨h1,(rowOK_put s1).1 hy.2⟩,⟨h2,(rowOK_put s2).2 hx.2⟩,h3⟩
 ·have hm:conflictM W (opAt ops x) (opAt ops y)=true:=by simpa using hm
  rw [hm] at hM
  simp only [Bool.true_and,Bool.not_eq_false'] at hM
  unfold apartD at hM
  split at hM
  ·rename_i a b ha hb
   have hab:a≠b:=fun e=>by rw [e] at hM; simp at hM
   have rx:=hx.2
   have ry:=(rowOK_put s1).1 hy.2
   have hxr:=hx.2
   have hyr:=(rowOK_put s1).1 hy.2
   unfold rowOK at hxr hyr
   simp only [ha,hb] at hxr hyr
   obtain ⟨p,p1,p2⟩:=hxr
   obtain ⟨q,q1,q2⟩:=hyr
   have hy':stepV P W ops (opAt ops y) A ρ1 vy ρ2:=stepV_congr (fun t ht=>putA_get (fun e=>s1 t e ht)) hy.1
   obtain ⟨R,R',h1,h2,rfl⟩:=(mem_step p1 p2).1 hx.1
   obtain ⟨S,S',h3,h4,rfl⟩:=(mem_step q1 q2).1 hy'
   rw [List.getElem?_set_ne hab] at h3
   refine ⟨ρ.set b (some S'),⟨(mem_step q1 q2).2 ⟨S,S',h3,h4,rfl⟩,ry⟩,⟨?_,(rowOK_put s2).2 rx⟩,putA_comm s3⟩
   refine stepV_congr (A:=A) (fun t ht=>(putA_get (fun e=>s2 t e ht)).symm) ((mem_step p1 p2).2 ⟨R,R',?_,h2,List.set_comm _ _ hab⟩)
   rw [List.getElem?_set_ne (fun e=>hab e.symm)]; exact h1
  ·cases hM

def RunI (P:Program) (W:WS) (ops:Array Oper) (D:DS) (K:List AV→Store→Prop):List Nat→List AV→Store→Prop
 | [],A,ρ=>K A ρ
 | i :: r,A,ρ=>∃ v ρ',stepI P W ops D i A ρ v ρ'∧RunI P W ops D K r (putA A (opAt ops i).dst v) ρ'
theorem RunI.front {ops:Array Oper} {D:DS} {K:List AV→Store→Prop} {y:Nat}:∀ (pre post:List Nat) (A:List AV) (ρ:Store),(∀ x ∈ pre,conflictI W ops D x y=false) →
  RunI P W ops D K (pre ++ y :: post) A ρ→∃ v ρ',stepI P W ops D y A ρ v ρ'∧RunI P W ops D K (pre ++ post) (putA A (opAt ops y).dst v) ρ'
 | [],post,A,ρ,_,h=>h
 | x :: pre,post,A,ρ,hc,h=>by
  obtain ⟨vx,ρ1,hx,h⟩:=h
  obtain ⟨vy,ρ2,hy,h⟩:=RunI.front pre post _ _ (fun z hz=>hc z (by simp [hz])) h
  obtain ⟨ρ1',h1,h2,h3⟩:=swapI (hc x (by simp)) hx hy
  exact ⟨vy,ρ1',h1,vx,ρ2,h2,by rw [← h3]; exact h⟩
theorem RunI.mem {ops:Array Oper} {D:DS} {K:List AV→Store→Prop} {y:Nat}:∀ (pre post:List Nat) (A:List AV) (ρ:Store),RunI P W ops D K (pre ++ y :: post) A ρ→∃ A' ρ1 v ρ2,stepV P W ops (opAt ops y) A' ρ1 v ρ2
 | [],post,A,ρ,⟨v,ρ',h,_⟩=>⟨A,ρ,v,ρ',h.1⟩
 | x :: pre,post,A,ρ,⟨v,ρ',_,h⟩=>RunI.mem pre post _ _ h

def befB (ops:Array Oper):Array Nat:=ops.toList.foldl (fun (B:Array Nat) o=>B.push (o.after.toList.foldl (fun m e=>bif Region.binds .any e then m ||| (1 <<< e.on) ||| B.getD e.on 0 else m) 0)) #[]
def isAlloc (o:Oper):Option (Tmp × TypeId):=match o.op,o.guard,o.dst with
 | .alloc t,none,some d=>some (d,t)
 | _,_,_=>none
def conflictJ (W:WS) (ops:Array Oper) (D:DS) (f j i:Nat):Bool:=bif Nat.beq i f then conflictS ops (opAt ops j) (opAt ops i) else conflictI W ops D j i
def pairJ (W:WS) (ops:Array Oper) (D:DS) (f:Nat) (B:Array Nat) (j i:Nat):Bool:=!Nat.beq j i && (!conflictJ W ops D f j i || bitB B i j) && !bitB B j i
def pairsJ (q:Nat→Nat→Bool):List Nat→Bool
 | []=>true
 | j :: r=>r.all (q j) && pairsJ q r
theorem pairsJ_spec {q:Nat→Nat→Bool}:∀ {l:List Nat},pairsJ q l=true→l.Pairwise (fun j i=>q j i=true)
 | [],_=>.nil
 | j :: r,h=>by
  simp only [pairsJ,Bool.and_eq_true,List.all_eq_true] at h
  exact .cons h.1 (pairsJ_spec h.2)
def edgesJ (ops:Array Oper) (B:Array Nat):Bool:=(List.range ops.size).all fun i =>
 ((opAt ops i).after.toList.all fun e=>!Region.binds .any e || (decide (e.on<i) && bitB B i e.on)) &&
 (List.range i).all fun j=>!bitB B i j || (opAt ops i).after.toList.any fun e=>Region.binds .any e && (e.on == j || (decide (j<e.on) && bitB B e.on j))
def floatJ (W:WS) (ops:Array Oper) (D:DS) (f:Nat) (B:Array Nat) (ord:List Nat):Bool:=(isAlloc (opAt ops f)).isSome &&
 (match ord.dropWhile (fun x=>!Nat.beq x f) with
  | g :: o2=>Nat.beq g f && o2.all fun i=>!conflictI W ops D f i || (ord.takeWhile (fun x=>!Nat.beq x f)).all fun j=>!conflictI W ops D j f || bitB B f j || bitB B i j
  | []=>false)
def drawOKJ (W:WS) (ops:Array Oper) (D:DS) (f:Nat) (ord:List Nat):Bool:=let B:=befB ops
 Nat.beq ord.length ops.size && ord.all (fun i=>Nat.blt i ops.size) && (List.range ops.size).all (fun i=>ord.any (Nat.beq i)) && edgesJ ops B && pairsJ (pairJ W ops D f B) ord && (Nat.ble ops.size f || floatJ W ops D f B ord)

structure DrawJ (W:WS) (ops:Array Oper) (D:DS) (f:Nat) (B:Array Nat) (ord:List Nat):Prop where
 mem:∀ i,i ∈ ord↔i<ops.size
 len:ord.length=ops.size
 edge:∀ {i:Nat},i<ops.size→∀ {e:Edge},e ∈ (opAt ops i).after.toList→Region.binds .any e=true→e.on<i∧bitB B i e.on=true
 chain:∀ {i j:Nat},i<ops.size→j<i→bitB B i j=true→∃ e ∈ (opAt ops i).after.toList,Region.binds .any e=true∧(e.on=j∨(j<e.on∧bitB B e.on j=true))
 pair:ord.Pairwise (fun j i=>j≠i∧(conflictJ W ops D f j i=true→bitB B i j=true)∧bitB B j i=false)
 fl:f<ops.size→(∃ d t,isAlloc (opAt ops f)=some (d,t))∧∃ o1 o2,ord=o1 ++ f :: o2∧∀ i ∈ o2,conflictI W ops D f i=true→∀ j ∈ o1,conflictI W ops D j f=true→bitB B f j=true∨bitB B i j=true

theorem drawJ {ops:Array Oper} {D:DS} {f:Nat} {ord:List Nat} (h:drawOKJ W ops D f ord=true):DrawJ W ops D f (befB ops) ord:=by
 unfold drawOKJ at h
 simp only [Bool.and_eq_true,Bool.or_eq_true,List.all_eq_true,List.any_eq_true,Nat.beq_eq,Nat.ble_eq,List.mem_range] at h
 obtain ⟨⟨⟨⟨⟨h1,h2⟩,h3⟩,h4⟩,h5⟩,h6⟩:=h
 unfold edgesJ at h4
 simp only [Bool.and_eq_true,Bool.or_eq_true,List.all_eq_true,List.any_eq_true,List.mem_range,Bool.not_eq_true',beq_iff_eq,decide_eq_true_eq] at h4
 constructor
 ·intro i
  constructor
  ·intro hi; have:=h2 i hi; simpa [Nat.blt_eq] using this
  ·intro hi
   obtain ⟨x,hx,e⟩:=h3 i hi
   rw [e]; exact hx
 ·exact h1
 ·intro i hi e he hb
  rcases (h4 i hi).1 e he with h | h
  ·rw [hb] at h; cases h
  ·exact h
 ·intro i j hi hj hb
  rcases (h4 i hi).2 j hj with h | ⟨e,he,h7,h8⟩
  ·rw [hb] at h; cases h
  ·exact ⟨e,he,h7,h8⟩
 ·refine (pairsJ_spec h5).imp ?_
  intro j i h
  unfold pairJ at h
  simp only [Bool.and_eq_true,Bool.or_eq_true,Bool.not_eq_true'] at h
  refine ⟨fun e=>?_,fun hc=>?_,h.2⟩
  ·have:=h.1.1; rw [e] at this; simp at this
  ·rcases h.1.2 with h | h
   ·rw [hc] at h; cases h
   ·exact h
 ·intro hf
  rcases h6 with h6 | h6
  ·omega
  ·unfold floatJ at h6
   simp only [Bool.and_eq_true,Option.isSome_iff_exists] at h6
   obtain ⟨⟨⟨d,t⟩,hal⟩,h7⟩:=h6
   refine ⟨⟨d,t,hal⟩,?_⟩
   split at h7
   ·rename_i g o2 hd
    simp only [Bool.and_eq_true,List.all_eq_true,Bool.or_eq_true,Bool.not_eq_true',Nat.beq_eq] at h7
    obtain ⟨rfl,h7⟩:=h7
    refine ⟨ord.takeWhile (fun x=>!Nat.beq x g),o2,by rw [← hd,List.takeWhile_append_dropWhile],fun i hi hc j hj hcj=>?_⟩
    rcases h7 i hi with h | h
    ·rw [hc] at h; cases h
    ·rcases h j hj with (h | h) | h
     ·rw [hcj] at h; cases h
     ·exact .inl h
     ·exact .inr h
   ·cases h7
end Go.Lg

namespace Go.Lg
variable {P:Program} {W:WS}

theorem isAlloc_spec {o:Oper} {d t} (h:isAlloc o=some (d,t)):o.op=.alloc t∧o.guard=none∧o.dst=some d:=by
 unfold isAlloc at h
 split at h
 ·rename_i t' d' h1 h2 h3; cases h; exact ⟨h1,h2,h3⟩
 ·cases h
theorem isAlloc_step {ops:Array Oper} {o:Oper} {d t} (ha:isAlloc o=some (d,t)) {A ρ v ρ'} (h:stepV P W ops o A ρ v ρ'):∃ z,zeroA P t=some z∧z.ok=true∧z.cells.length=P.cellsOf t∧v=.ptr ρ.length 0 0∧ρ'=ρ ++ [some ⟨P.cellsOf t,[z],none⟩]:=by
 obtain ⟨h1,h2,h3⟩:=isAlloc_spec ha
 unfold stepV at h
 simp only [h2] at h
 have hn:isW W o=none:=by unfold isW fnCall litDst; rw [h1]
 rcases h with h | h | h | h
 ·have h:=h.2
  unfold aop at h
  simp only [h1] at h
  obtain ⟨z,hz,h4,h5,rfl,rfl⟩:=h
  exact ⟨z,hz,h4,h5,rfl,rfl⟩
 ·rw [hn] at h; cases h.1
 ·rw [hn] at h; cases h.1
 ·rw [hn] at h; cases h.1

theorem listed_self (l:Array Bool) (i:Nat) (h:l.getD i true=false):l.setIfInBounds i false=l:=by
 apply Array.ext
 ·simp
 ·intro j h1 h2
  rw [Array.getElem_setIfInBounds]
  split
  ·rename_i e; subst e
   simp only [Array.getD,h2,dif_pos] at h
   exact h.symm
  ·rfl
theorem set_getD_true (l:Array Bool) (i:Nat) (h:l.getD i false=true):l.setIfInBounds i true=l:=by
 apply Array.ext
 ·simp
 ·intro j h1 h2
  rw [Array.getElem_setIfInBounds]
  split
  ·rename_i e; subst e
   simp only [Array.getD,h2,dif_pos] at h
   exact h.symm
  ·rfl
theorem set_set (l:Array Bool) (i:Nat) (x y:Bool):(l.setIfInBounds i x).setIfInBounds i y=l.setIfInBounds i y:=by grind
theorem set_comm' (l:Array Bool) (i j:Nat) (x y:Bool) (h:i≠j):(l.setIfInBounds i x).setIfInBounds j y=(l.setIfInBounds j y).setIfInBounds i x:=by grind

def ordL (ord:List Nat) (listed:Array Bool):List Nat:=ord.filter fun i=>!listed.getD i true

section
variable {ops:Array Oper} {D:DS} {f:Nat} {B:Array Nat} {ord:List Nat} (hJ:DrawJ W ops D f B ord)
include hJ

theorem mem_ordL {listed:Array Bool} {i:Nat}:i ∈ ordL ord listed↔i<ops.size∧listed.getD i true=false:=by
 unfold ordL
 rw [List.mem_filter,hJ.mem]
 simp
theorem ord_nodup:ord.Nodup:=hJ.pair.imp fun h=>h.1
theorem ordL_pair (listed:Array Bool):(ordL ord listed).Pairwise (fun j i=>j≠i∧(conflictJ W ops D f j i=true→bitB B i j=true)∧bitB B j i=false):=hJ.pair.filter _
theorem ordL_set {listed:Array Bool} {i:Nat} {pre post:List Nat} (hsz:listed.size=ops.size) (h:ordL ord listed=pre ++ i :: post):ordL ord (listed.setIfInBounds i true)=pre ++ post:=by
 have hp:=ordL_pair hJ listed
 have hi:i<ops.size:=((mem_ordL hJ).1 (by rw [h]; simp)).1
 have e1:ordL ord (listed.setIfInBounds i true)=(ordL ord listed).filter (fun j=>j != i):=by
  unfold ordL
  rw [List.filter_filter]
  apply List.filter_congr
  intro j hj
  have hjs:j<ops.size:=(hJ.mem j).1 hj
  by_cases e:j=i
  ·subst e
   have:(listed.setIfInBounds j true).getD j true=true:=by simp [Array.getD,hsz,hjs]
   rw [this]; simp
  ·rw [getD_set_ne _ _ _ _ _ (fun h=>e h.symm)]; simp [e]
 rw [e1,h]
 rw [h,List.pairwise_append] at hp
 obtain ⟨_,h2,h3⟩:=hp
 rw [List.pairwise_cons] at h2
 rw [List.filter_append,List.filter_cons]
 have f1:pre.filter (fun j=>j != i)=pre:=List.filter_eq_self.2 (fun j hj=>by have:=(h3 j hj i (by simp)).1; simpa using this)
 have f2:post.filter (fun j=>j != i)=post:=List.filter_eq_self.2 (fun j hj=>by have:=(h2.1 j hj).1; simpa using fun e:j=i=>this e.symm)
 rw [f1,f2]; simp

theorem beforeJ {listed:Array Bool} (hsz:listed.size=ops.size) (hcl:Closed ops listed):∀ i,i<ops.size →
  (∀ e ∈ (opAt ops i).after.toList,Region.binds .any e=true→listed.getD e.on false=true)→∀ j,j<i→bitB B i j=true→listed.getD j false=true:=by
 intro i
 induction i using Nat.strongRecOn with
 | _ i ih =>
  intro hi hpre j hj hb
  obtain ⟨e,he,h1,h2⟩:=hJ.chain hi hj hb
  have hlt:=(hJ.edge hi he h1).1
  have hl:=hpre e he h1
  rcases h2 with rfl | ⟨hj2,h2⟩
  ·exact hl
  ·have hon:e.on<ops.size:=by omega
   have hl':listed.getD e.on true=true:=by
    have:e.on<listed.size:=by omega
    simpa [Array.getD,this] using hl
   exact ih e.on hlt hon (hcl e.on hon hl') j hj2 h2
end

def Stands (P:Program) (W:WS) (ops:Array Oper) (D:DS) (f:Nat) (ord:List Nat) (C:Ctx) (K:List AV→Store→Prop) (listed:Array Bool) (a:Act) (w:World):Prop :=
 (∃ A ρ,SRel C a w A ρ∧RunI P W ops D K (ordL ord listed) A ρ) ∨
 (f<ops.size∧listed.getD f false=true∧∃ A ρ u d t z,∃ C2:Ctx,isAlloc (opAt ops f)=some (d,t)∧zeroA P t=some z∧C2.rd=C.rd∧SRel C2 a w (A.set d (.sc u)) ρ ∧
  (∀ (a':Act) (w':World) (A':List AV) (ρ':Store),SRel C2 a' w' (A'.set d (.sc u)) ρ'→SRel C a' w' (A'.set d (.ptr ρ'.length 0 0)) (ρ' ++ [some ⟨P.cellsOf t,[z],none⟩])) ∧
  RunI P W ops D K (ordL ord (listed.setIfInBounds f false)) A ρ)

def lowB (B:Array Nat) (n:Nat):Prop:=∀ i j,i<n→bitB B i j=true→j<i

section
variable {ops:Array Oper} {D:DS} {f:Nat} {B:Array Nat} {ord:List Nat} (hJ:DrawJ W ops D f B ord) (hlow:lowB B ops.size)
include hJ hlow
theorem stands_step {C:Ctx} {K:List AV→Store→Prop} {listed:Array Bool} {a w} (hs:Stands P W ops D f ord C K listed a w) (hsz:listed.size=ops.size) (hcl:Closed ops listed) {i:Nat} (h1:i<ops.size) (h2:listed.getD i true=false)
  (h3:∀ e ∈ (opAt ops i).after.toList,Region.binds .any e=true→listed.getD e.on false=true) {Q:Exit→Act→World→Prop} {K':Act→World→Prop} (hK:∀ a' w',Stands P W ops D f ord C K (listed.setIfInBounds i true) a' w'→K' a' w') (nn:Nat) :
  wpOpIn (fz C.rd) nn P ops Q i K' a w:=by
 have notl:∀ {j},j<ops.size→listed.getD j true=false→¬ listed.getD j false=true:=fun {j} hj h h'=>by
  have:j<listed.size:=by omega
  simp [Array.getD,this] at h h'
  rw [h] at h'; cases h'
 -- what is before,and not done,is in nobody's way
 have free:∀ j,j<ops.size→listed.getD j true=false→(conflictJ W ops D f j i=true→bitB B i j=true)→conflictJ W ops D f j i=false:=by
  intro j hjs hju hp
  cases hcf:conflictJ W ops D f j i with
  | false=>rfl
  | true =>
   have hb:=hp hcf
   exact absurd (beforeJ hJ hsz hcl i h1 h3 j (hlow i j h1 hb) hb) (notl hjs hju)
 have plain:∀ {A ρ},i≠f→SRel C a w A ρ→RunI P W ops D K (ordL ord listed) A ρ→wpOpIn (fz C.rd) nn P ops Q i K' a w:=by
  intro A ρ hif hs h
  have hmem:i ∈ ordL ord listed:=(mem_ordL hJ).2 ⟨h1,h2⟩
  obtain ⟨pre,post,hsplit⟩:=List.append_of_mem hmem
  have hsort:=ordL_pair hJ listed
  rw [hsplit,List.pairwise_append] at hsort
  rw [hsplit] at h
  have hc:∀ j ∈ pre,conflictI W ops D j i=false:=by
   intro j hj
   have hm:=(mem_ordL hJ (i:=j) (listed:=listed)).1 (by rw [hsplit]; simp [hj])
   have:=free j hm.1 hm.2 (hsort.2.2 j hj i (by simp)).2.1
   unfold conflictJ at this
   have hb:Nat.beq i f=false:=by
    cases hx:Nat.beq i f with
    | false=>rfl
    | true=>exact absurd (Nat.eq_of_beq_eq_true hx) hif
   rwa [hb] at this
  obtain ⟨v,ρ',hst,hrun⟩:=RunI.front _ _ _ _ hc h
  refine stepV_wp (opAt_get h1) hs hst.1 (fun a' w' hs'=>?_) nn
  refine hK a' w' (.inl ⟨_,ρ',hs',?_⟩)
  rw [ordL_set hJ hsz hsplit]; exact hrun
 rcases hs with ⟨A,ρ,hs,h⟩ | ⟨hfs,hlf,A,ρ,u,d,t,z,C2,hal,hz,hrd,hs,habs,h⟩
 ·by_cases hif:i=f
  ·subst hif
   obtain ⟨⟨d,t,hal⟩,_⟩:=hJ.fl h1
   obtain ⟨hop,hgd,hdst⟩:=isAlloc_spec hal
   have hmem:i ∈ ordL ord listed:=(mem_ordL hJ).2 ⟨h1,h2⟩
   obtain ⟨pre,post,hsplit⟩:=List.append_of_mem hmem
   have hh:=h
   rw [hsplit] at hh
   obtain ⟨A1,ρ1,v1,ρ2,hst⟩:=RunI.mem _ _ _ _ hh
   obtain ⟨z,hz,hzo,hzl,_,_⟩:=isAlloc_step hal hst
   obtain ⟨u,w1,C2,hrun,hrd,hs2,habs⟩:=alloc_pend hs (d:=d) hop hz hzo hzl
   unfold wpOpIn
   simp only [opAt_get h1]
   rw [if_pos (by simp [Region.wanted,hgd])]
   refine Oper.wpIn_value hrun ?_
   rw [hdst]
   refine hK _ _ (.inr ⟨h1,by simp [Array.getD,hsz,h1],A,ρ,u,d,t,z,C2,hal,hz,hrd,hs2,habs,?_⟩)
   rw [set_set,listed_self _ _ h2]; exact h
  ·exact plain hif hs h
 ·obtain ⟨⟨d',t',hal'⟩,o1,o2,hord,hfl⟩:=hJ.fl hfs
  rw [hal] at hal'; cases hal'
  obtain ⟨hop,hgd,hdst⟩:=isAlloc_spec hal
  have hif:i≠f:=fun e=>by subst e; exact notl h1 h2 hlf
  have hbf:Nat.beq i f=false:=by
   cases hx:Nat.beq i f with
   | false=>rfl
   | true=>exact absurd (Nat.eq_of_beq_eq_true hx) hif
  have hsz0:(listed.setIfInBounds f false).size=ops.size:=by simpa using hsz
  have hi0:(listed.setIfInBounds f false).getD i true=false:=by rw [getD_set_ne _ _ _ _ _ (fun e=>hif e.symm)]; exact h2
  have hmem:i ∈ ordL ord (listed.setIfInBounds f false):=(mem_ordL hJ).2 ⟨h1,hi0⟩
  have hmemf:f ∈ ordL ord (listed.setIfInBounds f false):=(mem_ordL hJ).2 ⟨hfs,by simp [Array.getD,hsz,hfs]⟩
  have unl:∀ j,j ∈ ordL ord (listed.setIfInBounds f false)→j≠f→j<ops.size∧listed.getD j true=false:=fun j hj hjf=>by
   have:=(mem_ordL hJ).1 hj
   rw [getD_set_ne _ _ _ _ _ (fun e=>hjf e.symm)] at this
   exact this
  have hlf':listed.getD f true=true:=by
   have:f<listed.size:=by omega
   simpa [Array.getD,this] using hlf
  have hpref:∀ e ∈ (opAt ops f).after.toList,Region.binds .any e=true→listed.getD e.on false=true:=hcl f hfs hlf'
  have hnd:=ord_nodup hJ
  -- before it in the list that is left: before it in the order
  have inO1:∀ p1 p2,ordL ord (listed.setIfInBounds f false)=p1 ++ f :: p2→(∀ j ∈ p1,j ∈ o1)∧∀ j ∈ p2,j ∈ o2:=by
   intro p1 p2 hsp
   have hff:(!(listed.setIfInBounds f false).getD f true)=true:=by simp [Array.getD,hsz,hfs]
   have e1:ordL ord (listed.setIfInBounds f false)=ordL o1 (listed.setIfInBounds f false) ++ f :: ordL o2 (listed.setIfInBounds f false):=by
    unfold ordL
    rw [hord,List.filter_append,List.filter_cons,if_pos hff]
   have hnd2:(ordL ord (listed.setIfInBounds f false)).Nodup:=hnd.filter _
   rw [hsp] at e1 hnd2
   have hf1:f ∉ p1:=fun hm=>by
    rw [List.nodup_append] at hnd2
    exact hnd2.2.2 f hm f (by simp) rfl
   have hf2:f ∉ ordL o1 (listed.setIfInBounds f false):=fun hm=>by
    have hm:=(List.mem_filter.1 hm).1
    rw [hord,List.nodup_append] at hnd
    exact hnd.2.2 f hm f (by simp) rfl
   have:=List.append_eq_append_iff.1 e1
   have split:p1=ordL o1 (listed.setIfInBounds f false)∧p2=ordL o2 (listed.setIfInBounds f false):=by
    rcases this with ⟨m,h5,h6⟩ | ⟨m,h5,h6⟩
    ·cases m with
     | nil =>
      rw [List.append_nil] at h5
      simp only [List.nil_append,List.cons.injEq,true_and] at h6
      exact ⟨h5.symm,h6⟩
     | cons x m =>
      simp only [List.cons_append,List.cons.injEq] at h6
      rw [h5,← h6.1] at hf2; exact absurd (by simp) hf2
    ·cases m with
     | nil =>
      rw [List.append_nil] at h5
      simp only [List.nil_append,List.cons.injEq,true_and] at h6
      exact ⟨h5,h6.symm⟩
     | cons x m =>
      simp only [List.cons_append,List.cons.injEq] at h6
      rw [h5,← h6.1] at hf1; exact absurd (by simp) hf1
   exact ⟨fun j hj=>(List.mem_filter.1 (split.1 ▸ hj)).1,fun j hj=>(List.mem_filter.1 (split.2 ▸ hj)).1⟩
  by_cases hcf:i ∈ o2∧conflictI W ops D f i=true
  ·-- the row is laid now
   obtain ⟨p1,p2,hsp⟩:=List.append_of_mem hmemf
   have hh:=h
   rw [hsp] at hh
   have hc:∀ j ∈ p1,conflictI W ops D j f=false:=by
    intro j hj
    have hjf:j≠f:=fun e=>by
     have hnd2:(ordL ord (listed.setIfInBounds f false)).Nodup:=hnd.filter _
     rw [hsp,List.nodup_append] at hnd2
     exact hnd2.2.2 j hj f (by simp) e
    obtain ⟨hjs,hju⟩:=unl j (by rw [hsp]; simp [hj]) hjf
    cases hcj:conflictI W ops D j f with
    | false=>rfl
    | true =>
     rcases hfl i hcf.1 hcf.2 j ((inO1 p1 p2 hsp).1 j hj) hcj with h5 | h5
     ·exact absurd (beforeJ hJ hsz hcl f hfs hpref j (hlow f j hfs h5) h5) (notl hjs hju)
     ·exact absurd (beforeJ hJ hsz hcl i h1 h3 j (hlow i j h1 h5) h5) (notl hjs hju)
   obtain ⟨v,ρ',hst,hrun⟩:=RunI.front _ _ _ _ hc hh
   obtain ⟨z',hz',_,_,rfl,rfl⟩:=isAlloc_step hal hst.1
   rw [hz] at hz'; cases hz'
   have hs':=habs _ _ _ _ hs
   have hrem:ordL ord listed=p1 ++ p2:=by
    have:=ordL_set hJ hsz0 hsp
    rwa [set_set,set_getD_true _ _ hlf] at this
   refine plain hif hs' ?_
   rw [hrem]
   rw [hdst] at hrun
   exact hrun
  ·-- it waits
   obtain ⟨pre,post,hsplit⟩:=List.append_of_mem hmem
   have hsort:=ordL_pair hJ (listed.setIfInBounds f false)
   rw [hsplit,List.pairwise_append] at hsort
   have hh:=h
   rw [hsplit] at hh
   -- it is in the order after f,or before it
   have hpos:i ∈ o1∨i ∈ o2:=by
    have:=(hJ.mem i).2 h1
    rw [hord] at this
    rcases List.mem_append.1 this with h | h
    ·exact .inl h
    ·rcases List.mem_cons.1 h with h | h
     ·exact absurd h hif
     ·exact .inr h
   have hc:∀ j ∈ pre,conflictI W ops D j i=false:=by
    intro j hj
    by_cases hjf:j=f
    ·subst hjf
     cases hx:conflictI W ops D j i with
     | false=>rfl
     | true =>
      exfalso
      -- i comes after j in what is left
      obtain ⟨q1,q2,rfl⟩:=List.append_of_mem hj
      have hio:i ∈ o2:=by
       refine (inO1 q1 (q2 ++ i :: post) ?_).2 i (by simp)
       rw [hsplit]; simp
      exact hcf ⟨hio,hx⟩
    ·have hm:=unl j (by rw [hsplit]; simp [hj]) hjf
     have:=free j hm.1 hm.2 (hsort.2.2 j hj i (by simp)).2.1
     unfold conflictJ at this
     rwa [hbf] at this
   obtain ⟨v,ρ',hst,hrun⟩:=RunI.front _ _ _ _ hc hh
   -- its slot is looked at by nobody here
   have hslot:conflictS ops (opAt ops f) (opAt ops i)=false∨conflictS ops (opAt ops i) (opAt ops f)=false:=by
    rcases hpos with ho | ho
    ·right
     have hp:(conflictJ W ops D f i f=true→bitB B f i=true):=by
      have:=hJ.pair
      rw [hord,List.pairwise_append] at this
      exact (this.2.2 i ho f (by simp)).2.1
     have hbb:Nat.beq f f=true:=by simp
     unfold conflictJ at hp
     rw [hbb] at hp
     cases hx:conflictS ops (opAt ops i) (opAt ops f) with
     | false=>rfl
     | true =>
      have hb:=hp hx
      exact absurd (beforeJ hJ hsz hcl f hfs hpref i (hlow f i hfs hb) hb) (notl h1 h2)
    ·left
     cases hx:conflictI W ops D f i with
     | false =>
      unfold conflictI at hx
      simp only [Bool.or_eq_false_iff] at hx
      exact hx.1
     | true=>exact absurd ⟨ho,hx⟩ hcf
   have hd:d ∉ rds ops (opAt ops i)∧(opAt ops i).dst≠some d:=by
    rcases hslot with hx | hx
    ·obtain ⟨s1,s2,s3⟩:=conflictS_slots hx
     exact ⟨s1 d hdst,fun e=>s3 d ⟨hdst,e⟩⟩
    ·obtain ⟨s1,s2,s3⟩:=conflictS_slots hx
     exact ⟨s2 d hdst,fun e=>s3 d ⟨e,hdst⟩⟩
   have hst2:stepI P W ops D i (A.set d (.sc u)) ρ v ρ':=stepI_congr (fun x hx=>by
    have:d≠x:=fun e=>hd.1 (e ▸ hx)
    simp [List.getD,List.getElem?_set_ne this]) hst
   have:=stepV_wp (P:=P) (opAt_get h1) hs hst2.1 (Q:=Q) (K:=K') (fun a' w' hs'=>?_) nn
   ·rw [hrd] at this; exact this
   ·refine hK a' w' (.inr ⟨hfs,?_,putA A (opAt ops i).dst v,ρ',u,d,t,z,C2,hal,hz,hrd,?_,habs,?_⟩)
    ·rw [getD_set_ne _ _ _ _ _ hif]; exact hlf
    ·have:(putA A (opAt ops i).dst v).set d (.sc u)=putA (A.set d (.sc u)) (opAt ops i).dst v:=by
      cases hdi:(opAt ops i).dst with
      | none=>rfl
      | some d' =>
       simp only [putA]
       exact List.set_comm _ _ (fun e=>hd.2 (by rw [hdi,e]))
     rw [this]; exact hs'
    ·rw [set_comm' _ _ _ _ _ hif,ordL_set hJ hsz0 hsplit]
     exact hrun

theorem any_soundJ {C:Ctx} {K:List AV→Store→Prop} {Q:Exit→Act→World→Prop} (hQ:∀ a w A ρ,SRel C a w A ρ→K A ρ→Q .normal a w) :
  ∀ (fuel:Nat) (listed:Array Bool) (a:Act) (w:World),Stands P W ops D f ord C K listed a w→fuel=(ordL ord listed).length→listed.size=ops.size→Closed ops listed →
   ∀ n,wpAnyIn (fz C.rd) n P .any ops Q fuel listed a w
 | 0,listed,a,w,hs,hf,hsz,hcl=>fun nn=>by
  have hr:ordL ord listed=[]:=List.eq_nil_of_length_eq_zero hf.symm
  refine ⟨?_,?_⟩
  ·rw [List.eq_nil_iff_forall_not_mem]
   intro i hi
   obtain ⟨h1,h2,_⟩:=mem_ready.1 hi
   have:i ∈ ordL ord listed:=(mem_ordL hJ).2 ⟨h1,h2⟩
   rw [hr] at this; cases this
  ·rcases hs with ⟨A,ρ,hs,h⟩ | ⟨hfs,hlf,A,ρ,u,d,t,z,C2,hal,hz,hrd,hs,habs,h⟩
   ·rw [hr] at h; exact hQ a w A ρ hs h
   ·obtain ⟨hop,hgd,hdst⟩:=isAlloc_spec hal
    have hmemf:f ∈ ordL ord (listed.setIfInBounds f false):=(mem_ordL hJ).2 ⟨hfs,by simp [Array.getD,hsz,hfs]⟩
    obtain ⟨p1,p2,hsp⟩:=List.append_of_mem hmemf
    have hrem:=ordL_set hJ (by simpa using hsz) hsp
    rw [set_set,set_getD_true _ _ hlf,hr] at hrem
    have hp1:p1=[]:=(List.append_eq_nil_iff.1 hrem.symm).1
    have hp2:p2=[]:=(List.append_eq_nil_iff.1 hrem.symm).2
    subst hp1 hp2
    rw [hsp] at h
    obtain ⟨v,ρ',hst,hk⟩:=h
    obtain ⟨z',hz',_,_,rfl,rfl⟩:=isAlloc_step hal hst.1
    rw [hz] at hz'; cases hz'
    rw [hdst] at hk
    exact hQ a w _ _ (habs _ _ _ _ hs) hk
 | fuel+1,listed,a,w,hs,hf,hsz,hcl=>fun nn=>by
  refine ⟨fun hnone=>?_,fun i hi=>?_⟩
  ·exfalso
   -- the least that is not done is ready
   have ex:∃ i,i<ops.size∧listed.getD i true=false:=by
    cases hr:ordL ord listed with
    | nil=>rw [hr] at hf; simp at hf
    | cons i r=>exact ⟨i,(mem_ordL hJ).1 (by rw [hr]; simp)⟩
   obtain ⟨i,⟨h1,h2⟩,hmin⟩:∃ i,(i<ops.size∧listed.getD i true=false)∧∀ j,j<i→¬ (j<ops.size∧listed.getD j true=false):=by
    obtain ⟨i,hi⟩:=ex
    induction i using Nat.strongRecOn with
    | _ i ih =>
     by_cases h:∃ j,j<i∧(j<ops.size∧listed.getD j true=false)
     ·obtain ⟨j,hj,hj2⟩:=h
      exact ih j hj hj2
     ·exact ⟨i,hi,fun j hj hj2=>h ⟨j,hj,hj2⟩⟩
   have:i ∈ Region.ready .any ops listed:=mem_ready.2 ⟨h1,h2,fun e he hb=>by
    have hlt:=(hJ.edge h1 he hb).1
    have hon:e.on<ops.size:=by omega
    cases hl:listed.getD e.on true with
    | true =>
     have:e.on<listed.size:=by omega
     simpa [Array.getD,this] using hl
    | false=>exact absurd ⟨hon,hl⟩ (hmin e.on hlt)⟩
   rw [hnone] at this; cases this
  ·obtain ⟨h1,h2,h3⟩:=mem_ready.1 hi
   refine stands_step hJ hlow hs hsz hcl h1 h2 h3 (fun a' w' hs'=>?_) nn
   have hmem:i ∈ ordL ord listed:=(mem_ordL hJ).2 ⟨h1,h2⟩
   obtain ⟨pre,post,hsplit⟩:=List.append_of_mem hmem
   have hrem:=ordL_set hJ hsz hsplit
   refine any_soundJ hQ fuel (listed.setIfInBounds i true) a' w' hs' ?_ (by simpa using hsz) ?_ nn
   ·rw [hrem]; rw [hsplit] at hf; simp at hf ⊢; omega
   ·intro k hk hkl e he hb
    have mono:listed.getD e.on false=true→(listed.setIfInBounds i true).getD e.on false=true:=by
     intro h
     by_cases hlt:e.on<listed.size
     ·by_cases e2:i=e.on
      ·subst e2; simp [Array.getD,hlt]
      ·rw [getD_set_ne _ _ _ _ _ e2]; exact h
     ·simp [Array.getD,hlt] at h
    by_cases e2:k=i
    ·subst e2; exact mono (h3 e he hb)
    ·refine mono (hcl k hk ?_ e he hb)
     rwa [getD_set_ne _ _ _ _ _ (fun h=>e2 h.symm)] at hkl
end

def lowOK (B:Array Nat) (n:Nat):Bool:=(List.range n).all fun i=>Nat.blt (B.getD i 0) (2 ^ i)
theorem lowOK_spec {B:Array Nat} {n:Nat} (h:lowOK B n=true):lowB B n:=by
 intro i j hi hb
 unfold lowOK at h
 rw [List.all_eq_true] at h
 have h:=h i (by simp [hi])
 have h:B.getD i 0<2 ^ i:=by simpa [Nat.blt_eq] using h
 unfold bitB at hb
 by_cases hj:j<i
 ·exact hj
 ·have:(B.getD i 0).testBit j=false:=Nat.testBit_lt_two_pow (Nat.lt_of_lt_of_le h (Nat.pow_le_pow_right (by omega) (by omega)))
  rw [this] at hb; cases hb

theorem wpA_drawJ {C:Ctx} {Q:Exit→List AV→Store→Prop} {A:List AV} {ρ:Store} {id:Nat} {ops:Array Oper} {D:DS} {f:Nat} {ord:List Nat} (hm:P.follows .mixedOrders=true) (hB:drawOKJ W ops D f ord=true) (hl:lowOK (befB ops) ops.size=true)
  (h:RunI P W ops D (Q .normal) ord A ρ):wpA P C (.region id ops true) Q A ρ:=by
 intro a w hs nn
 have hJ:=drawJ hB
 have hrem:ordL ord (Array.replicate ops.size false)=ord:=List.filter_eq_self.2 (fun i hi=>by
  have:i<ops.size:=(hJ.mem i).1 hi
  simp [Array.getD,this])
 refine wpIn_region_any hm (any_soundJ (P:=P) (K:=Q .normal) hJ (lowOK_spec hl) (fun a w A ρ hs hq=>⟨A,ρ,hs,hq⟩) ops.size (Array.replicate ops.size false) a _ (.inl ⟨A,ρ,hs.drawn,?_⟩) ?_ (by simp) ?_ nn)
 ·rw [hrem]; exact h
 ·rw [hrem]; exact hJ.len.symm
 ·intro i hi hl
  simp [Array.getD,hi] at hl
end Go.Lg
